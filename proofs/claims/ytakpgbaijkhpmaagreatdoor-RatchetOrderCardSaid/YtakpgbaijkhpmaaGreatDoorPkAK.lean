import Derived.Test.YtakpgbaijkhpmaaGreatDoorPkAJ
import Derived.Test.YtakpgbaijkhpmaaGreatDoorPkAA
import Derived.Defers
import Derived.Laws.Pointers
import Derived.Laws.LoneSync
import Derived.RegionTactic
import Derived.RegionCalls
import Derived.Test.YtakpgbaijkhpmaaGreatDoorPkAH
import Derived.Test.YtakpgbaijkhpmaaGreatDoorPkAF
namespace Go.Proofs.YtakpgbaijkhpmaaGreatDoor
section
open Go.ChangeShapes Go.WideShapes Go.ChangeAt Go.RowKit Go.Deep Go.Maps
set_option maxRecDepth 100000
theorem JY{p q:List Value}{a b:Value}{o:Nat}(h:p.length=o):(p ++([a] ++ q)).set o b=p ++([b] ++ q):=by
 rw [List.set_append_right _ _(by omega),h,Nat.sub_self];rfl
theorem zV{p q:List Value}{a:Value}{o:Nat}(h:p.length=o):(p ++([a] ++ q))[o]? =some a:=by
 rw [List.getElem?_append_right(by omega),h,Nat.sub_self];rfl
def Rt.P_root(s:Rt):List Value:= []
def Rt.R_root(s:Rt)(kp:Nat)(q:List Value):List Value:=cellsOf s.own ++([.bool s.ho] ++(cellsOf s.ot ++([.bool s.mt] ++([.bool s.si] ++(cellsOf s.sc ++([.int .i64 s.sm] ++([.int .i64 s.bf] ++([.bool s.ri] ++(cellsOf s.rc ++([.int .i64 s.rm] ++([.pointer(some⟨kp,0,none⟩)] ++(q))))))))))))
theorem Rt.C_root(s:Rt)(kp:Nat)(q:List Value):s.C kp ++ q=s.P_root ++(cellsOf s.root ++ s.R_root kp q):=by simp [Rt.C,Rt.P_root,Rt.R_root]
theorem Rt.L_root{s:Rt}(h:s.ok):s.P_root.length=0:=by simp [Rt.P_root]
def Rt.P_own(s:Rt):List Value:=cellsOf s.root
def Rt.R_own(s:Rt)(kp:Nat)(q:List Value):List Value:= [.bool s.ho] ++(cellsOf s.ot ++([.bool s.mt] ++([.bool s.si] ++(cellsOf s.sc ++([.int .i64 s.sm] ++([.int .i64 s.bf] ++([.bool s.ri] ++(cellsOf s.rc ++([.int .i64 s.rm] ++([.pointer(some⟨kp,0,none⟩)] ++(q)))))))))))
theorem Rt.C_own(s:Rt)(kp:Nat)(q:List Value):s.C kp ++ q=s.P_own ++(cellsOf s.own ++ s.R_own kp q):=by simp [Rt.C,Rt.P_own,Rt.R_own]
theorem Rt.L_own{s:Rt}(h:s.ok):s.P_own.length=32:=by simp [Rt.P_own,ja,h.root,h.own,h.ot,h.sc,h.rc]
def Rt.P_ho(s:Rt):List Value:=cellsOf s.root ++(cellsOf s.own)
def Rt.R_ho(s:Rt)(kp:Nat)(q:List Value):List Value:=cellsOf s.ot ++([.bool s.mt] ++([.bool s.si] ++(cellsOf s.sc ++([.int .i64 s.sm] ++([.int .i64 s.bf] ++([.bool s.ri] ++(cellsOf s.rc ++([.int .i64 s.rm] ++([.pointer(some⟨kp,0,none⟩)] ++(q))))))))))
theorem Rt.C_ho(s:Rt)(kp:Nat)(q:List Value):s.C kp ++ q=s.P_ho ++([.bool s.ho] ++ s.R_ho kp q):=by simp [Rt.C,Rt.P_ho,Rt.R_ho]
theorem Rt.L_ho{s:Rt}(h:s.ok):s.P_ho.length=96:=by simp [Rt.P_ho,ja,h.root,h.own,h.ot,h.sc,h.rc]
theorem Rt.G_ho{s:Rt}(h:s.ok)(kp:Nat)(q:List Value):(s.C kp ++ q)[96]? =some(.bool s.ho):=by rw [s.C_ho];exact zV(Rt.L_ho h)
theorem Rt.S_ho{s:Rt}(h:s.ok)(kp:Nat)(q:List Value)(x:Bool):(s.C kp ++ q).set 96(.bool x)=({s with ho:=x}:Rt).C kp ++ q:=by rw [s.C_ho,Rt.C_ho,JY(Rt.L_ho h)];rfl
def Rt.P_ot(s:Rt):List Value:=cellsOf s.root ++(cellsOf s.own ++([.bool s.ho]))
def Rt.R_ot(s:Rt)(kp:Nat)(q:List Value):List Value:= [.bool s.mt] ++([.bool s.si] ++(cellsOf s.sc ++([.int .i64 s.sm] ++([.int .i64 s.bf] ++([.bool s.ri] ++(cellsOf s.rc ++([.int .i64 s.rm] ++([.pointer(some⟨kp,0,none⟩)] ++(q)))))))))
theorem Rt.C_ot(s:Rt)(kp:Nat)(q:List Value):s.C kp ++ q=s.P_ot ++(cellsOf s.ot ++ s.R_ot kp q):=by simp [Rt.C,Rt.P_ot,Rt.R_ot]
theorem Rt.L_ot{s:Rt}(h:s.ok):s.P_ot.length=97:=by simp [Rt.P_ot,ja,h.root,h.own,h.ot,h.sc,h.rc]
def Rt.P_mt(s:Rt):List Value:=cellsOf s.root ++(cellsOf s.own ++([.bool s.ho] ++(cellsOf s.ot)))
def Rt.R_mt(s:Rt)(kp:Nat)(q:List Value):List Value:= [.bool s.si] ++(cellsOf s.sc ++([.int .i64 s.sm] ++([.int .i64 s.bf] ++([.bool s.ri] ++(cellsOf s.rc ++([.int .i64 s.rm] ++([.pointer(some⟨kp,0,none⟩)] ++(q))))))))
theorem Rt.C_mt(s:Rt)(kp:Nat)(q:List Value):s.C kp ++ q=s.P_mt ++([.bool s.mt] ++ s.R_mt kp q):=by simp [Rt.C,Rt.P_mt,Rt.R_mt]
theorem Rt.L_mt{s:Rt}(h:s.ok):s.P_mt.length=129:=by simp [Rt.P_mt,cellsOf_len,h.root,h.own,h.ot,h.sc,h.rc]
theorem Rt.G_mt{s:Rt}(h:s.ok)(kp:Nat)(q:List Value):(s.C kp ++ q)[129]? =some(.bool s.mt):=by rw [s.C_mt];exact zV(Rt.L_mt h)
theorem Rt.S_mt{s:Rt}(h:s.ok)(kp:Nat)(q:List Value)(x:Bool):(s.C kp ++ q).set 129(.bool x)=({s with mt:=x}:Rt).C kp ++ q:=by rw [s.C_mt,Rt.C_mt,JY(Rt.L_mt h)];rfl
def Rt.P_si(s:Rt):List Value:=cellsOf s.root ++(cellsOf s.own ++([.bool s.ho] ++(cellsOf s.ot ++([.bool s.mt]))))
def Rt.R_si(s:Rt)(kp:Nat)(q:List Value):List Value:=cellsOf s.sc ++([.int .i64 s.sm] ++([.int .i64 s.bf] ++([.bool s.ri] ++(cellsOf s.rc ++([.int .i64 s.rm] ++([.pointer(some⟨kp,0,none⟩)] ++(q)))))))
theorem Rt.C_si(s:Rt)(kp:Nat)(q:List Value):s.C kp ++ q=s.P_si ++([.bool s.si] ++ s.R_si kp q):=by simp [Rt.C,Rt.P_si,Rt.R_si]
theorem Rt.L_si{s:Rt}(h:s.ok):s.P_si.length=130:=by simp [Rt.P_si,cellsOf_len,h.root,h.own,h.ot,h.sc,h.rc]
theorem Rt.G_si{s:Rt}(h:s.ok)(kp:Nat)(q:List Value):(s.C kp ++ q)[130]? =some(.bool s.si):=by rw [s.C_si];exact zV(Rt.L_si h)
def Rt.P_sm(s:Rt):List Value:=cellsOf s.root ++(cellsOf s.own ++([.bool s.ho] ++(cellsOf s.ot ++([.bool s.mt] ++([.bool s.si] ++(cellsOf s.sc))))))
def Rt.R_sm(s:Rt)(kp:Nat)(q:List Value):List Value:= [.int .i64 s.bf] ++([.bool s.ri] ++(cellsOf s.rc ++([.int .i64 s.rm] ++([.pointer(some⟨kp,0,none⟩)] ++(q)))))
theorem Rt.C_sm(s:Rt)(kp:Nat)(q:List Value):s.C kp ++ q=s.P_sm ++([.int .i64 s.sm] ++ s.R_sm kp q):=by simp [Rt.C,Rt.P_sm,Rt.R_sm]
theorem Rt.L_sm{s:Rt}(h:s.ok):s.P_sm.length=163:=by simp [Rt.P_sm,cellsOf_len,h.root,h.own,h.ot,h.sc,h.rc]
theorem Rt.G_sm{s:Rt}(h:s.ok)(kp:Nat)(q:List Value):(s.C kp ++ q)[163]? =some(.int .i64 s.sm):=by rw [s.C_sm];exact zV(Rt.L_sm h)
def Rt.P_bf(s:Rt):List Value:=cellsOf s.root ++(cellsOf s.own ++([.bool s.ho] ++(cellsOf s.ot ++([.bool s.mt] ++([.bool s.si] ++(cellsOf s.sc ++([.int .i64 s.sm])))))))
def Rt.R_bf(s:Rt)(kp:Nat)(q:List Value):List Value:= [.bool s.ri] ++(cellsOf s.rc ++([.int .i64 s.rm] ++([.pointer(some⟨kp,0,none⟩)] ++(q))))
theorem Rt.C_bf(s:Rt)(kp:Nat)(q:List Value):s.C kp ++ q=s.P_bf ++([.int .i64 s.bf] ++ s.R_bf kp q):=by simp [Rt.C,Rt.P_bf,Rt.R_bf]
theorem Rt.L_bf{s:Rt}(h:s.ok):s.P_bf.length=164:=by simp [Rt.P_bf,cellsOf_len,h.root,h.own,h.ot,h.sc,h.rc]
theorem Rt.G_bf{s:Rt}(h:s.ok)(kp:Nat)(q:List Value):(s.C kp ++ q)[164]? =some(.int .i64 s.bf):=by rw [s.C_bf];exact zV(Rt.L_bf h)
theorem Rt.S_bf{s:Rt}(h:s.ok)(kp:Nat)(q:List Value)(x:Int):(s.C kp ++ q).set 164(.int .i64 x)=({s with bf:=x}:Rt).C kp ++ q:=by rw [s.C_bf,Rt.C_bf,JY(Rt.L_bf h)];rfl
def Rt.P_ri(s:Rt):List Value:=cellsOf s.root ++(cellsOf s.own ++([.bool s.ho] ++(cellsOf s.ot ++([.bool s.mt] ++([.bool s.si] ++(cellsOf s.sc ++([.int .i64 s.sm] ++([.int .i64 s.bf]))))))))
def Rt.R_ri(s:Rt)(kp:Nat)(q:List Value):List Value:=cellsOf s.rc ++([.int .i64 s.rm] ++([.pointer(some⟨kp,0,none⟩)] ++(q)))
theorem Rt.C_ri(s:Rt)(kp:Nat)(q:List Value):s.C kp ++ q=s.P_ri ++([.bool s.ri] ++ s.R_ri kp q):=by simp [Rt.C,Rt.P_ri,Rt.R_ri]
theorem Rt.L_ri{s:Rt}(h:s.ok):s.P_ri.length=165:=by simp [Rt.P_ri,cellsOf_len,h.root,h.own,h.ot,h.sc,h.rc]
theorem Rt.G_ri{s:Rt}(h:s.ok)(kp:Nat)(q:List Value):(s.C kp ++ q)[165]? =some(.bool s.ri):=by rw [s.C_ri];exact zV(Rt.L_ri h)
def Rt.P_rc(s:Rt):List Value:=cellsOf s.root ++(cellsOf s.own ++([.bool s.ho] ++(cellsOf s.ot ++([.bool s.mt] ++([.bool s.si] ++(cellsOf s.sc ++([.int .i64 s.sm] ++([.int .i64 s.bf] ++([.bool s.ri])))))))))
def Rt.R_rc(s:Rt)(kp:Nat)(q:List Value):List Value:= [.int .i64 s.rm] ++([.pointer(some⟨kp,0,none⟩)] ++(q))
theorem Rt.C_rc(s:Rt)(kp:Nat)(q:List Value):s.C kp ++ q=s.P_rc ++(cellsOf s.rc ++ s.R_rc kp q):=by simp [Rt.C,Rt.P_rc,Rt.R_rc]
theorem Rt.L_rc{s:Rt}(h:s.ok):s.P_rc.length=166:=by simp [Rt.P_rc,cellsOf_len,h.root,h.own,h.ot,h.sc,h.rc]
def Rt.P_rm(s:Rt):List Value:=cellsOf s.root ++(cellsOf s.own ++([.bool s.ho] ++(cellsOf s.ot ++([.bool s.mt] ++([.bool s.si] ++(cellsOf s.sc ++([.int .i64 s.sm] ++([.int .i64 s.bf] ++([.bool s.ri] ++(cellsOf s.rc))))))))))
def Rt.R_rm(s:Rt)(kp:Nat)(q:List Value):List Value:= [.pointer(some⟨kp,0,none⟩)] ++(q)
theorem Rt.C_rm(s:Rt)(kp:Nat)(q:List Value):s.C kp ++ q=s.P_rm ++([.int .i64 s.rm] ++ s.R_rm kp q):=by simp [Rt.C,Rt.P_rm,Rt.R_rm]
theorem Rt.L_rm{s:Rt}(h:s.ok):s.P_rm.length=198:=by simp [Rt.P_rm,cellsOf_len,h.root,h.own,h.ot,h.sc,h.rc]
theorem Rt.G_rm{s:Rt}(h:s.ok)(kp:Nat)(q:List Value):(s.C kp ++ q)[198]? =some(.int .i64 s.rm):=by rw [s.C_rm];exact zV(Rt.L_rm h)
theorem Rt.S_rm{s:Rt}(h:s.ok)(kp:Nat)(q:List Value)(x:Int):(s.C kp ++ q).set 198(.int .i64 x)=({s with rm:=x}:Rt).C kp ++ q:=by rw [s.C_rm,Rt.C_rm,JY(Rt.L_rm h)];rfl
theorem Rt.C_kp(s:Rt)(kp:Nat)(q:List Value):s.C kp ++ q=(cellsOf s.root ++(cellsOf s.own ++([.bool s.ho] ++(cellsOf s.ot ++([.bool s.mt] ++([.bool s.si] ++(cellsOf s.sc ++([.int .i64 s.sm] ++([.int .i64 s.bf] ++([.bool s.ri] ++(cellsOf s.rc ++ [.int .i64 s.rm])))))))))))++([.pointer(some⟨kp,0,none⟩)] ++ q):=by simp [Rt.C]
theorem Rt.L_kp{s:Rt}(h:s.ok):(cellsOf s.root ++(cellsOf s.own ++([Value.bool s.ho] ++(cellsOf s.ot ++([Value.bool s.mt] ++([Value.bool s.si] ++(cellsOf s.sc ++([Value.int .i64 s.sm] ++([Value.int .i64 s.bf] ++([Value.bool s.ri] ++(cellsOf s.rc ++ [Value.int .i64 s.rm]))))))))))).length=199:=by simp [ja,h.root,h.own,h.ot,h.sc,h.rc]
theorem Rt.G_kp{s:Rt}(h:s.ok)(kp:Nat)(q:List Value):(s.C kp ++ q)[199]? =some(.pointer(some⟨kp,0,none⟩)):=by rw [s.C_kp];exact zV(Rt.L_kp h)
theorem Rt.S_kp{s:Rt}(h:s.ok)(kp kp':Nat)(q:List Value):(s.C kp ++ q).set 199(.pointer(some⟨kp',0,none⟩))=s.C kp' ++ q:=by rw [s.C_kp,s.C_kp,JY(Rt.L_kp h)]
def Sq(w:World)(g:Nat)(T:TypeId)(s:Rt)(kp:Nat)(q:List Value):Prop:=Cb w g T(s.C kp ++ q)
section
variable{w w':World}{g kp:Nat}{T:TypeId}{s:Rt}{q:List Value}
theorem Sq.lt(h:Sq w g T s kp q):g < w.heap.size:=Cb.lt h
theorem Sq.ext(h:Sq w g T s kp q)(e:Ext w w'):Sq w' g T s kp q:=Cb.ext h e
theorem Sq.keep(h:Sq w g T s kp q)(e:w'.heap[g]? =w.heap[g]?):Sq w' g T s kp q:=e.trans h
theorem Sq.other{g':Nat}(h:Sq w g T s kp q)(e:w.grownBy w'(some g'))(hne:g≠g'):Sq w' g T s kp q:=(e.block g h.lt(fun z=>hne(Option.some.inj z))).trans h
theorem Sq.frozen(h:Sq w g T s kp q)(j:Nat):w.frozen?⟨g,j,none⟩=false:=Cb.frozen h j
theorem Sq.at_root(h:Sq w g T s kp q)(ok:s.ok):∀j v,(cellsOf s.root)[j]? =some v→w.cell?⟨g,0+j,none⟩=some v:=Cb.mid h(s.C_root kp q)(Rt.L_root ok)
theorem Sq.put_root(h:Sq w g T s kp q)(ok:s.ok){x:List UInt8}(hx:x.length=32):Sq(w.setCells g 0(cellsOf x))g T{s with root:=x}kp q:=by
 have:=Cb.put h(s.C_root kp q)(Rt.L_root ok)(z:=cellsOf x)(by rw [cellsOf_len,ja,hx,ok.root])
 unfold Sq
 rw [Rt.C_root]
 exact this
theorem Sq.there_root(h:Sq w g T s kp q)(ok:s.ok):w.there g 0 32:=Cb.there h(by rw [s.C_root];simp [Rt.L_root ok,ja,ok.root] <;> omega)
theorem Sq.at_own(h:Sq w g T s kp q)(ok:s.ok):∀j v,(cellsOf s.own)[j]? =some v→w.cell?⟨g,32+j,none⟩=some v:=Cb.mid h(s.C_own kp q)(Rt.L_own ok)
theorem Sq.put_own(h:Sq w g T s kp q)(ok:s.ok){x:List UInt8}(hx:x.length=64):Sq(w.setCells g 32(cellsOf x))g T{s with own:=x}kp q:=by
 have:=Cb.put h(s.C_own kp q)(Rt.L_own ok)(z:=cellsOf x)(by rw [ja,ja,hx,ok.own])
 unfold Sq
 rw [Rt.C_own]
 exact this
theorem Sq.there_own(h:Sq w g T s kp q)(ok:s.ok):w.there g 32 64:=Cb.there h(by rw [s.C_own];simp [Rt.L_own ok,ja,ok.own] <;> omega)
theorem Sq.ho(h:Sq w g T s kp q)(ok:s.ok):w.cell?⟨g,96,none⟩=some(.bool s.ho):=Cb.cell h(Rt.G_ho ok kp q)
theorem Sq.set_ho(h:Sq w g T s kp q)(ok:s.ok)(x:Bool):Sq(w.setCell⟨g,96,none⟩(.bool x))g T{s with ho:=x}kp q:=by
 have:=Cb.setCell h(o:=96)(v:= .bool x)
 rw [Rt.S_ho ok] at this
 exact this
theorem Sq.at_ot(h:Sq w g T s kp q)(ok:s.ok):∀j v,(cellsOf s.ot)[j]? =some v→w.cell?⟨g,97+j,none⟩=some v:=Cb.mid h(s.C_ot kp q)(Rt.L_ot ok)
theorem Sq.put_ot(h:Sq w g T s kp q)(ok:s.ok){x:List UInt8}(hx:x.length=32):Sq(w.setCells g 97(cellsOf x))g T{s with ot:=x}kp q:=by
 have:=Cb.put h(s.C_ot kp q)(Rt.L_ot ok)(z:=cellsOf x)(by rw [cellsOf_len,ja,hx,ok.ot])
 unfold Sq
 rw [Rt.C_ot]
 exact this
theorem Sq.there_ot(h:Sq w g T s kp q)(ok:s.ok):w.there g 97 32:=Cb.there h(by rw [s.C_ot];simp [Rt.L_ot ok,ja,ok.ot] <;> omega)
theorem Sq.mt(h:Sq w g T s kp q)(ok:s.ok):w.cell?⟨g,129,none⟩=some(.bool s.mt):=Cb.cell h(Rt.G_mt ok kp q)
theorem Sq.set_mt(h:Sq w g T s kp q)(ok:s.ok)(x:Bool):Sq(w.setCell⟨g,129,none⟩(.bool x))g T{s with mt:=x}kp q:=by
 have:=Cb.setCell h(o:=129)(v:= .bool x)
 rw [Rt.S_mt ok] at this
 exact this
theorem Sq.si(h:Sq w g T s kp q)(ok:s.ok):w.cell?⟨g,130,none⟩=some(.bool s.si):=Cb.cell h(Rt.G_si ok kp q)
theorem Sq.sm(h:Sq w g T s kp q)(ok:s.ok):w.cell?⟨g,163,none⟩=some(.int .i64 s.sm):=Cb.cell h(Rt.G_sm ok kp q)
theorem Sq.bf(h:Sq w g T s kp q)(ok:s.ok):w.cell?⟨g,164,none⟩=some(.int .i64 s.bf):=Cb.cell h(Rt.G_bf ok kp q)
theorem Sq.set_bf(h:Sq w g T s kp q)(ok:s.ok)(x:Int):Sq(w.setCell⟨g,164,none⟩(.int .i64 x))g T{s with bf:=x}kp q:=by
 have:=Cb.setCell h(o:=164)(v:= .int .i64 x)
 rw [Rt.S_bf ok] at this
 exact this
theorem Sq.ri(h:Sq w g T s kp q)(ok:s.ok):w.cell?⟨g,165,none⟩=some(.bool s.ri):=Cb.cell h(Rt.G_ri ok kp q)
theorem Sq.at_rc(h:Sq w g T s kp q)(ok:s.ok):∀j v,(cellsOf s.rc)[j]? =some v→w.cell?⟨g,166+j,none⟩=some v:=Cb.mid h(s.C_rc kp q)(Rt.L_rc ok)
theorem Sq.put_rc(h:Sq w g T s kp q)(ok:s.ok){x:List UInt8}(hx:x.length=32):Sq(w.setCells g 166(cellsOf x))g T{s with rc:=x}kp q:=by
 have:=Cb.put h(s.C_rc kp q)(Rt.L_rc ok)(z:=cellsOf x)(by rw [cellsOf_len,ja,hx,ok.rc])
 unfold Sq
 rw [Rt.C_rc]
 exact this
theorem Sq.there_rc(h:Sq w g T s kp q)(ok:s.ok):w.there g 166 32:=Cb.there h(by rw [s.C_rc];simp [Rt.L_rc ok,ja,ok.rc] <;> omega)
theorem Sq.rm(h:Sq w g T s kp q)(ok:s.ok):w.cell?⟨g,198,none⟩=some(.int .i64 s.rm):=Cb.cell h(Rt.G_rm ok kp q)
theorem Sq.set_rm(h:Sq w g T s kp q)(ok:s.ok)(x:Int):Sq(w.setCell⟨g,198,none⟩(.int .i64 x))g T{s with rm:=x}kp q:=by
 have:=Cb.setCell h(o:=198)(v:= .int .i64 x)
 rw [Rt.S_rm ok] at this
 exact this
theorem Sq.kpc(h:Sq w g T s kp q)(ok:s.ok):w.cell?⟨g,199,none⟩=some(.pointer(some⟨kp,0,none⟩)):=Cb.cell h(Rt.G_kp ok kp q)
theorem Sq.set_kp(h:Sq w g T s kp q)(ok:s.ok)(x:Nat):Sq(w.setCell⟨g,199,none⟩(.pointer(some⟨x,0,none⟩)))g T s x q:=by
 have:=Cb.setCell h(o:=199)(v:= .pointer(some⟨x,0,none⟩))
 rw [Rt.S_kp ok] at this
 exact this
theorem Rt.C_send(s:Rt)(kp:Nat)(q:List Value):s.C kp ++ q=s.P_si ++([.bool s.si] ++(cellsOf s.sc ++([.int .i64 s.sm] ++ s.R_sm kp q))):=by simp [Rt.C,Rt.P_si,Rt.R_sm]
theorem Rt.C_recv(s:Rt)(kp:Nat)(q:List Value):s.C kp ++ q=s.P_ri ++([.bool s.ri] ++(cellsOf s.rc ++([.int .i64 s.rm] ++ s.R_rm kp q))):=by simp [Rt.C,Rt.P_ri,Rt.R_rm]
end
end
section
open Go.ChangeShapes Go.WideShapes Go.ChangeAt Go.RowKit Go.Deep
set_option maxRecDepth 100000
theorem jD{w w':World}{r:Option Nat}(h:Ext w w'):w.grownBy w' r:=⟨h.os,h.tape,h.output,h.size,fun i hi _=>h.block i hi⟩
theorem jaj{a w:World}{r:Option Nat}(h:a.grownBy w r):a.grownBy w.drew r:=⟨h.os,h.tape,h.output,h.size,h.block⟩
theorem jP{w:World}{g o:Nat}{v:Value}:w.grownBy(w.setCell⟨g,o,none⟩v)(some g):=ju(w:=w)(g:=g)(o:=o)(vs:= [v])
theorem zv{w w':World}{g i:Nat}{o:Obj}(h:w.grownBy w'(some g))(hi:i≠g)(k:w.heap[i]? =some o):w'.heap[i]? =some o:=(h.block i(jh k)(fun e=>hi(Option.some.inj e))).trans k
theorem JQ{w0 a b:World}{g:Nat}(h:Ext w0 a)(k:a.grownBy b(some g))(hg:w0.heap.size≤g):Ext w0 b:=
 Below.trans h⟨k.os,k.tape,k.output,k.size,fun i hi=>k.block i(Nat.lt_of_lt_of_le hi h.size)(fun e=>by have:=Option.some.inj e;omega)⟩
def Zp(A:Option Addr)(n c:Nat)(d s:Int)(rt:List UInt8)(m:Nat):List Value:= [.slice A n c, .int .u32 d, .int .i32 s, .int .u32 0] ++(cellsOf rt ++ [.int .i64(m:Int)])
theorem jdX{A:Option Addr}{n c m:Nat}{d s:Int}{rt:List UInt8}(h:rt.length=32):(Zp A n c d s rt m).length=37:=by simp [Zp,ja,h]
def Sb(w:World)(g:Nat)(A:Option Addr)(n c:Nat)(d s:Int)(rt:List UInt8)(m:Nat):Prop:=
 w.heap[g]? =some(.cells(Zp A n c d s rt m).toArray 143(0,0))∧rt.length=32
section
variable{w w':World}{g n c m:Nat}{A:Option Addr}{d s:Int}{rt:List UInt8}
theorem Sb.lt(h:Sb w g A n c d s rt m):g < w.heap.size:=jh h.1
theorem Sb.ext(h:Sb w g A n c d s rt m)(e:Ext w w'):Sb w' g A n c d s rt m:=⟨(e.block g h.lt).trans h.1,h.2⟩
theorem Sb.frozen(h:Sb w g A n c d s rt m)(j:Nat):w.frozen?⟨g,j,none⟩=false:=frozen_of_row w g j _ _ h.1
theorem Sb.cell0(h:Sb w g A n c d s rt m):w.cell?⟨g,0,none⟩=some(.slice A n c):=by rw [cell_of_row w g _ _ _ _ h.1];rfl
theorem Sb.cell1(h:Sb w g A n c d s rt m):w.cell?⟨g,1,none⟩=some(.int .u32 d):=by rw [cell_of_row w g _ _ _ _ h.1];rfl
theorem Sb.cell2(h:Sb w g A n c d s rt m):w.cell?⟨g,2,none⟩=some(.int .i32 s):=by rw [cell_of_row w g _ _ _ _ h.1];rfl
theorem Sb.cell36(h:Sb w g A n c d s rt m):w.cell?⟨g,36,none⟩=some(.int .i64(m:Int)):=by
 rw [cell_of_row w g _ _ _ _ h.1,List.getElem?_toArray,Zp,List.getElem?_append_right(by simp),List.getElem?_append_right(by simp [ja,h.2])]
 simp [ja,h.2]
theorem Sb.at4(h:Sb w g A n c d s rt m):∀j v,(cellsOf rt)[j]? =some v→w.cell?⟨g,4+j,none⟩=some v:=fun j v hv=>by
 rw [cell_of_row w g _ _ _ _ h.1,List.getElem?_toArray,Zp,List.getElem?_append_right(by simp),show 4+j - [Value.slice A n c, .int .u32 d, .int .i32 s, .int .u32 0].length=j by simp,List.getElem?_append_left(List.getElem?_eq_some_iff.1 hv).1,hv]
theorem zE{w:World}{g o:Nat}{v:Value}{t:TypeId}{fr:Nat×Nat}{L:List Value}(h:w.heap[g]? =some(.cells L.toArray t fr)):(w.setCell⟨g,o,none⟩v).heap[g]? =some(.cells(L.set o v).toArray t fr):=by
 simp [World.setCell,Array.getElem?_modify,h]
theorem Sb.set0(h:Sb w g A n c d s rt m)(A':Option Addr)(n' c':Nat):Sb(w.setCell⟨g,0,none⟩(.slice A' n' c'))g A' n' c' d s rt m:=⟨zE h.1,h.2⟩
theorem Sb.set1(h:Sb w g A n c d s rt m)(d':Int):Sb(w.setCell⟨g,1,none⟩(.int .u32 d'))g A n c d' s rt m:=⟨zE h.1,h.2⟩
theorem Sb.set2(h:Sb w g A n c d s rt m)(s':Int):Sb(w.setCell⟨g,2,none⟩(.int .i32 s'))g A n c d s' rt m:=⟨zE h.1,h.2⟩
theorem Sb.set36(h:Sb w g A n c d s rt m)(m':Nat):Sb(w.setCell⟨g,36,none⟩(.int .i64(m':Int)))g A n c d s rt m':=⟨by
 have:=zE(o:=36)(v:= .int .i64(m':Int))h.1
 rw [this,Zp,Zp,List.set_append,if_neg(by simp),List.set_append,if_neg(by simp [ja,h.2])]
 simp [ja,h.2],h.2⟩
theorem Sb.setRoot(h:Sb w g A n c d s rt m){rt':List UInt8}(hr:rt'.length=32):Sb(w.setCells g 4(cellsOf rt'))g A n c d s rt' m:=⟨by
 have:=qH(cellsOf rt')4 w _ h.1(by rw [jdX h.2,ja,hr];omega)
 rw [this]
 have dd:List.drop(4+32)(Zp A n c d s rt m)= [.int .i64(m:Int)]:=by
  rw [Zp,← List.append_assoc,List.drop_left'(by simp [ja,h.2])]
 have tt:List.take 4(Zp A n c d s rt m)= [.slice A n c, .int .u32 d, .int .i32 s, .int .u32 0]:=by
  rw [Zp,List.take_left'(by simp)]
 unfold splice
 rw [ja,hr,dd,tt]
 rfl,hr⟩
theorem Sb.there(h:Sb w g A n c d s rt m):w.there g 4 32:=Ja h.1(by rw [jdX h.2];omega)
end
theorem oDisable(w:World):(callFunc 186 #[]).run Tryz.prog w= .ok(.value(.tuple #[]))w:=run_call_mark0 Tryz.func186(by kernel_rfl)(by kernel_rfl)(by kernel_rfl) .disable(by kernel_rfl)w
theorem oEnable(w:World):(callFunc 188 #[]).run Tryz.prog w= .ok(.value(.tuple #[]))w:=run_call_mark0 Tryz.func188(by kernel_rfl)(by kernel_rfl)(by kernel_rfl) .enable(by kernel_rfl)w
theorem oAcquire(a:Addr)(w:World):(callFunc 189 #[.pointer(some a)]).run Tryz.prog w= .ok(.value(.tuple #[]))w:=run_call_marked Tryz.func189(by kernel_rfl)(by kernel_rfl)(by kernel_rfl) .acquire(by kernel_rfl)a w
theorem oReleaseMerge(a:Addr)(w:World):(callFunc 191 #[.pointer(some a)]).run Tryz.prog w= .ok(.value(.tuple #[]))w:=run_call_marked Tryz.func191(by kernel_rfl)(by kernel_rfl)(by kernel_rfl) .releaseMerge(by kernel_rfl)a w
theorem oStore_deferred(a:Addr)(x:Value)(u:FrameMode)(w:World)(hc:w.cell? a=some x)(hz:w.frozen? a=false):
  CallsD Tryz.prog 175 #[.pointer(some a), .bool true] u w fun e u' w'=>u'=u∧(e= .returned(.tuple #[])∧w'=w.drew.setCell a(.int .u32 1)):=by
 have hc':w.drew.cell? a=some x:=by go_simp
 have hz':w.drew.frozen? a=false:=by go_simp
 have hst:=run_call_store(P:=Tryz.prog)Tryz.func184(by kernel_rfl)(by kernel_rfl)(by kernel_rfl)(by kernel_rfl)(k:= .u32)(y:=1)hc' hz'
 go_enter_d Tryz.func175,Tryz.ntmps175
 go_wp2
 go_region_calls
 all_goals(go_end0;exact⟨rfl,rfl⟩)
theorem oUnlock_deferred(a:Addr)(u:FrameMode)(w:World)(hc:w.cell? a=some(.int .i32 1))(hz:w.frozen? a=false):
  CallsD Tryz.prog 174 #[.pointer(some a)] u w fun e u' w'=>u'=u∧(e= .returned(.tuple #[])∧w'=w.setCell a(.int .i32 0)):=by
 have hd:=jdn
 have he:=jfN
 have hr:=jbi
 have hadd:=run_call_add(P:=Tryz.prog)Tryz.func192(by kernel_rfl)(by kernel_rfl)(by kernel_rfl) .i32(by kernel_rfl)(y:= -1)(s:=0)hc hz(by simp [go_sem];rfl)
 have hcv:=run_convert_to_unsafe(P:=Tryz.prog)(src:=274)(dst:=278)Tryz.underlying274 Tryz.underlying278(by kernel_rfl)hc
 go_enter_d Tryz.func174,Tryz.ntmps174
 go_wp2
 go_end0
 go_wp2
 go_end0
 exact⟨rfl,rfl⟩
theorem oLock_free(a:Addr)(w:World)(hc:w.cell? a=some(.int .i32 0))(hz:w.frozen? a=false):
  Calls Tryz.prog 173 #[.pointer(some a)] w fun e w'=>e= .returned(.tuple #[])∧w'=w.setCell a(.int .i32 1):=by
 have hd:=jdn
 have he:=jfN
 have ha:=jhV
 have hcas:=run_call_cas_hit(P:=Tryz.prog)Tryz.func187(by kernel_rfl)(by kernel_rfl)(by kernel_rfl) .i32(by kernel_rfl)(y:=1)hc hz
 have hc':(w.setCell a(.int .i32 1)).cell? a=some(.int .i32 1):=World.cell?_setCell_same w a _ hc
 have hcv:=run_convert_to_unsafe(P:=Tryz.prog)(src:=274)(dst:=278)Tryz.underlying274 Tryz.underlying278(by kernel_rfl)hc'
 go_enter Tryz.func173,Tryz.ntmps173
 go_wp2
 first |go_end0 |(simp only [Exit.inBlock,Exit.then];refine bodyPost_ret(results_none rfl _ _ _)rfl ?_)|refine bodyPost_ret(results_none rfl _ _ _)rfl ?_
 go_wp2
 go_end0
 exact⟨rfl,rfl⟩
end
section
open Go.ChangeShapes Go.WideShapes Go.ChangeAt Go.RowKit Go.Deep
set_option maxRecDepth 100000 in
set_option maxHeartbeats 1000000 in
theorem jbL{A:Option Addr}{m d:Nat}{bs:List UInt8}{w:World}(h:Bs w A m d bs){tg:TypeId×Nat×Nat}(hG:Gl w tg):
  Calls Tryz.prog 156 #[.slice A m d] w fun e w'=>e= .returned(.agg(cellsOf(jC [] bs)).toArray)∧Ext w w':=by
 have hal:∀w,(zeroValue 23).run Tryz.prog w= .ok(.agg jr)w:=fun _=>by kernel_rfl
 have HL:(cellsOf(jC [] bs)).toArray.size=32:=by simp [ja,qq]
 have H1:=ji(jC [] bs)
 have CALL:Hid(Calls Tryz.prog 95 #[.slice none 0 0, .slice A m d](w.alloc(Obj.cells jr 23))fun e w'=>e= .returned(.tuple #[.agg(cellsOf(jC [] bs)).toArray, .int .i64 0])∧Ext(w.alloc(Obj.cells jr 23))w'):=
  Zi(Bs.nil _)(h.ext((Ext.refl w).alloc _))(by omega)(hG.kept((Ext.refl w).alloc _)hG.lt)
 clear hG
 have hz0:=j7
 generalize jr=Z at *
 generalize(cellsOf(jC [] bs)).toArray=D at *
 go_enter Tryz.func156,Tryz.ntmps156
 go_wp2_with fail
 refine CALL.out.mono ?_
 rintro e w1⟨rfl,e1⟩
 have r0:=hd((e1.block w.heap.size(by rw [je];omega)).trans(heap_alloc_new w(Obj.cells Z 23)))
 have r1:Hid(((w1.alloc(Obj.cells Z 23)).setRow w1.heap.size D).heap[w.heap.size]? =some(Obj.cells Z 23)):=(setRow_other _ _ _ _(Nat.ne_of_lt(jh r0.out))).trans(((Ext.refl w1).alloc _ |>.block _(jh r0.out)).trans r0.out)
 clear CALL
 go_wp2_with(first
  |refine wpList_store_row rfl 23 _ _ rfl w1.heap.size D rfl rfl 23 _(by with_reducible exact heap_alloc_new _ _)(by rw [HL];rfl)(by rw [HL];exact hz0)H1 ?_
  |refine wpList_load_row rfl 23 _ rfl w1.heap.size rfl 23 D(0,0)_(by with_reducible exact setRow_heap _ _ _ _ _ _(heap_alloc_new _ _))rfl rfl(by rw [HL];rfl)?_
  |refine wpList_store_row rfl 23 _ _ rfl w.heap.size D rfl rfl 23 Z(by with_reducible exact r1.out)(by rw [HL];rfl)(by rw [HL];exact hz0)H1 ?_)
 (try simp only [Exit.inBlock,Exit.then])
 refine bodyPost_ret(results_cell_row rfl _ _ w.heap.size 23 D(0,0)_ rfl(setRow_heap _ _ _ _ _ _ r1.out)rfl rfl(by rw [HL];rfl))rfl ?_
 exact⟨rfl,below_setRow(below_setRow((((Ext.refl w).alloc _).trans e1).alloc _)(Nat.le_of_lt(jh r0.out))_)(Nat.le_refl _)_⟩
end
section
open Go.ChangeShapes Go.WideShapes Go.ChangeAt Go.RowKit Go.Deep
set_option maxRecDepth 100000
theorem Sb.drew{w:World}{g n c m:Nat}{A:Option Addr}{d s:Int}{rt:List UInt8}(h:Sb w g A n c d s rt m):Sb w.drew g A n c d s rt m:=⟨h.1,h.2⟩
theorem Bs.grownK{w w':World}{A:Option Addr}{n c g:Nat}{xs:List UInt8}(h:Bs w A n c xs)(k:w.grownBy w'(some g))(hne:∀a,A=some a→a.block≠g):Bs w' A n c xs:=
 ⟨h.1,h.2.1,h.2.2.1,fun hn=>by
  obtain⟨b,off,e,hb,hc⟩ :=h.2.2.2 hn
  refine⟨b,off,e,Nat.lt_of_lt_of_le hb k.size,fun j hj=> ?_⟩
  have hk:=k.block b hb(fun q=>hne _ e(by cases q;rfl))
  have:=hc j hj
  unfold World.cell? at this ⊢
  rw [show(⟨b,off+j,none⟩:Addr).block=b from rfl] at this ⊢
  rw [hk]
  exact this⟩
set_option maxHeartbeats 2000000 in
theorem takeRoot_calls{w:World}{g n c m:Nat}{A:Option Addr}{d s:Int}{rt xs:List UInt8}(h:Sb w g A n c d s rt m)(hb:Bs w A n c xs){tg:TypeId×Nat×Nat}(hG:Gl w tg):
  Calls Tryz.prog 135 #[.pointer(some⟨g,0,none⟩)] w fun e w'=>e= .returned(.tuple #[])∧w.grownBy w'(some g)∧Sb w' g none 0 0 d s(jC [] xs)m:=by
 have SUM:=hd(jbL hb hG)
 clear hG hb
 have L_rk:=qq [] xs
 generalize jC [] xs=rk at *
 have S_rk:(cellsOf rk).toArray.size=32:=by simp [ja,L_rk]
 have O_rk:=ji rk
 have c0:=h.cell0
 replace h:=hd h
 go_enter Tryz.func135,Tryz.ntmps135
 go_wp2_with fail
 refine SUM.out.mono ?_
 rintro e w1⟨rfl,e1⟩
 have h1:=hd(h.out.ext e1)
 have g1:Hid(w.grownBy w1(some g)):=jD e1
 clear SUM h e1 c0
 go_upto_region 1 with(refine wpList_store_mid rfl 23 _ _ rfl g 4(cellsOf rk).toArray rfl rfl(by rw [S_rk];exact h1.out.there)(by rw [S_rk];rfl)O_rk ?_;simp only [Act.put])
 refine wp_gen(fun W=>Sb W g A n c d s rk m∧w.grownBy W(some g))⟨h1.out.setRoot L_rk,jt g1.out ju⟩?_
 clear h1 g1
 rintro w2⟨h,g2⟩
 have c0:=h.cell0
 have f0:=h.frozen 0
 have h3:=hd(h.set0 none 0 0)
 have g3:Hid(w.grownBy(w2.setCell⟨g,0,none⟩(.slice none 0 0))(some g)):=jt g2 jP
 clear h g2
 go_wp2_with fail
 go_end0
 exact⟨rfl,g3.out,h3.out⟩
set_option maxHeartbeats 4000000 in
theorem doSlow_calls{w:World}{g n c m:Nat}{A:Option Addr}{rt xs:List UInt8}(h:Sb w g A n c 0 0 rt m)(hb:Bs w A n c xs)(hne:∀a,A=some a→a.block≠g){tg:TypeId×Nat×Nat}(hG:Gl w tg)(hGk:∀W,w.grownBy W(some g)→Gl W tg):
  Calls Tryz.prog 159 #[.pointer(some⟨g,1,none⟩), .func(.func 135)#[.pointer(some⟨g,0,none⟩)] #[]] w fun e w'=>e= .returned(.tuple #[])∧w.grownBy w'(some g)∧Sb w' g none 0 0 1 0(jC [] xs)m:=by
 have hnot:∀(x:Bool)(w:World),(Op.unary .not(.bool x)).run Tryz.prog w= .ok(.bool(!x))w:=fun _ _=>rfl
 have hB:=hd hb
 have hN:=hd hne
 have hK:=hd hGk
 clear hb hne hGk hG
 have LK:=hd(jeG⟨g,2,none⟩w h.cell2(h.frozen 2))
 replace h:=hd h
 go_enter_defers Tryz.func159,Tryz.ntmps159
 go_wp2_with fail
 refine LK.out.mono ?_
 rintro e w'⟨rfl,rfl⟩
 go_upto_region 1 with fail
 refine wp_gen(fun W=>Sb W g A n c 0 1 rt m∧w.grownBy W(some g))⟨h.out.set2 1,jP⟩?_
 clear h LK
 rintro w1⟨h,g1⟩
 have hl:=run_call_load(P:=Tryz.prog)Tryz.func172(by kernel_rfl)(by kernel_rfl)(by kernel_rfl) .u32(by kernel_rfl)(w:=w1)(a:=⟨g,1,none⟩)(x:=0)h.cell1
 have TK:=hd(jaZ h(hB.out.grownK g1 hN.out)(hK.out _ g1))
 clear h hB hN hK
 replace g1:=hd g1
 go_wp2_with(go_at_call 158;go_in)
 refine TK.out.mono ?_
 rintro e w2⟨rfl,g2,h2⟩
 have gg:=hd(jt g1.out g2)
 have s1:=hd(h2.drew.set1 1)
 have s2:=hd(s1.out.set2 0)
 clear g1 g2 TK
 go_wp2_with fail
 refine leaves_cons(f:=175)(args:= #[.pointer(some⟨g,1,none⟩), .bool true])(by simp)(by simp [go_sem])?_
 refine(oStore_deferred⟨g,1,none⟩(.int .u32 0) .returning _ h2.cell1(h2.frozen 1)).mono ?_
 rintro e u' w''⟨rfl,rfl,rfl⟩
 refine leaves_cons(f:=174)(args:= #[.pointer(some⟨g,2,none⟩)])(by simp [settle])(by simp [go_sem])?_
 refine(oUnlock_deferred⟨g,2,none⟩_ _ s1.out.cell2(s1.out.frozen 2)).mono ?_
 rintro e u' w''⟨rfl,rfl,rfl⟩
 simp [Leaves,settle,results,Tryz.results159]
 exact⟨jt(jt(jaj gg.out)jP)jP,s2.out⟩
set_option maxHeartbeats 2000000 in
theorem do_first{w:World}{g n c m:Nat}{A:Option Addr}{rt xs:List UInt8}(h:Sb w g A n c 0 0 rt m)(hb:Bs w A n c xs)(hne:∀a,A=some a→a.block≠g){tg:TypeId×Nat×Nat}(hG:Gl w tg)(hGk:∀W,w.grownBy W(some g)→Gl W tg):
  Calls Tryz.prog 134 #[.pointer(some⟨g,1,none⟩), .func(.func 135)#[.pointer(some⟨g,0,none⟩)] #[]] w fun e w'=>e= .returned(.tuple #[])∧w.grownBy w'(some g)∧Sb w' g none 0 0 1 0(jC [] xs)m:=by
 have hnot:∀(x:Bool)(w:World),(Op.unary .not(.bool x)).run Tryz.prog w= .ok(.bool(!x))w:=fun _ _=>rfl
 have hl:=run_call_load(P:=Tryz.prog)Tryz.func172(by kernel_rfl)(by kernel_rfl)(by kernel_rfl) .u32(by kernel_rfl)(w:=w)(a:=⟨g,1,none⟩)(x:=0)h.cell1
 have SL:=hd(jb8 h hb hne hG hGk)
 clear h hb hne hG hGk
 go_enter Tryz.func134,Tryz.ntmps134
 go_wp2_with(first |(go_at_call 159;refine SL.out.mono ?_;rintro e w2⟨rfl,g2,h2⟩)|(go_at_call 158;go_in))
 go_end0
 exact⟨rfl,g2,h2⟩
set_option maxHeartbeats 2000000 in
theorem do_done{w:World}{g n c m:Nat}{A:Option Addr}{s:Int}{rt:List UInt8}{fv:Value}(h:Sb w g A n c 1 s rt m):
  Calls Tryz.prog 134 #[.pointer(some⟨g,1,none⟩),fv] w fun e w'=>e= .returned(.tuple #[])∧w'=w:=by
 have hnot:∀(x:Bool)(w:World),(Op.unary .not(.bool x)).run Tryz.prog w= .ok(.bool(!x))w:=fun _ _=>rfl
 have hl:=run_call_load(P:=Tryz.prog)Tryz.func172(by kernel_rfl)(by kernel_rfl)(by kernel_rfl) .u32(by kernel_rfl)(w:=w)(a:=⟨g,1,none⟩)(x:=1)h.cell1
 clear h
 go_enter Tryz.func134,Tryz.ntmps134
 go_wp2_with(go_at_call 158;go_in)
 go_end0
 exact⟨rfl,rfl⟩
end
section
structure Ent where
 i:Nat
 d:Nat
 Φ:Value→World→Prop
 nw:Bool:=false
def blk:Value→Option Nat
 | .pointer(some a) =>some a.block
 | .slice(some a)_ _=>some a.block
 | .map(some b) =>some b
 |_=>none
def Zj(L:List Ent)(i:Nat):Bool:=L.any fun e=>e.i == i && e.nw
def ZD(a0:Act)(s:Nat):List Ent→Value→World→Prop
 | [],u,_=>u=a0.tmps.getD s undef
 |e :: r,u,w=>if e.d == s+1 then e.Φ u w else ZD a0 s r u w
def jgZ(v:Nat→Value)(w:World):List Ent→Prop
 | []=>True
 |e :: r=>e.Φ(v e.i)w∧jgZ v w r
def zu:Nat→Option Nat
 |0=>none
 |d+1=>some d
def yP(a0:Act)(v:Nat→Value):List Ent→Act
 | []=>a0
 |e :: r=>(yP a0 v r).put(zu e.d)(v e.i)
section
variable{P:Program}{ops:Array Oper}{Q:Exit→Act→World→Prop}
def Ob(P:Program)(ops:Array Oper)(Q:Exit→Act→World→Prop)(R:World→World→Prop)(w0:World)(a0:Act)(L:List Ent)(i:Nat)(nw:Bool)(Φ:Value→World→Prop):Prop:=
 ∀o,ops[i]? =some o→∀a w,R w0 w→(∀s,(o.looksAt ops).contains s=true→ZD a0 s L(a.tmps.getD s undef)w)→
  wpOp P ops Q i(fun a' w'=>∃v,a'=a.put o.dst v∧R w w'∧Φ v w'∧(nw=true→∀g,blk v=some g→w.heap.size≤g))a w
def jcR(P:Program)(ops:Array Oper)(Q:Exit→Act→World→Prop)(R:World→World→Prop)(w0:World)(a0:Act)(L:List Ent)(e:Ent):Prop:=
 (∀o,ops[e.i]? =some o→QC o=e.d)∧(∀u w w',e.Φ u w→R w w'→e.Φ u w')∧Ob P ops Q R w0 a0 L e.i e.nw e.Φ∧(e.nw=true→e.d≠0∧∀u w,e.Φ u w→∃g,blk u=some g∧g < w.heap.size)
def Qa(P:Program)(ops:Array Oper)(Q:Exit→Act→World→Prop)(R:World→World→Prop)(w0:World)(a0:Act)(F:List Ent→Prop):List Ent→List Nat→Prop
 |L, []=>F L
 |L,i :: r=>∃Φ d nw,jcR P ops Q R w0 a0 L⟨i,d,Φ,nw⟩∧Qa P ops Q R w0 a0 F(⟨i,d,Φ,nw⟩ :: L)r
def jg0(P:Program)(ops:Array Oper)(Q:Exit→Act→World→Prop)(R:World→World→Prop)(w0:World)(a0:Act):List Ent→Prop
 | []=>True
 |e :: r=>jcR P ops Q R w0 a0 r e∧jg0 P ops Q R w0 a0 r
theorem jfz{R:World→World→Prop}{w0:World}{a0:Act}{F:List Ent→Prop}:∀(r:List Nat)(L:List Ent),Qa P ops Q R w0 a0 F L r→jg0 P ops Q R w0 a0 L→∃L',Coll P ops Q R w0 a0 L'∧L'.map(·.i)=r.reverse ++ L.map(·.i)∧F L'
 | [],L,h,hc=>⟨L,hc,by simp,h⟩
 |i :: r,L,⟨Φ,d,nw,hg,h⟩,hc=>by
  obtain⟨L',h1,h2,h3⟩ :=jfz r _ h⟨hg,hc⟩
  exact⟨L',h1,by rw [h2];simp,h3⟩
def jkx(D:List(Nat×Nat×Nat))(pre:List Nat):Bool:=
 (List.range D.length).all fun i=>match D[i]? with
  |none=>false
  |some x=>(List.range D.length).all fun k=> !(pre.getD i 0).testBit k || x.1.testBit k ||(List.range D.length).any fun d=>x.1.testBit d &&(pre.getD d 0).testBit k
def jbt(D:List(Nat×Nat×Nat))(pre:List Nat)(i:Nat)(r:List Nat):Bool:=
 match D[i]? with
 |none=>false
 |some x=>(List.range D.length).all(fun k=> !x.1.testBit k || r.contains k)&& r.all fun j=>match D[j]? with
   |none=>false
   |some y=>(y.2.1 == 0 || !x.2.2.testBit y.2.1 ||(pre.getD i 0).testBit j)&&(x.2.1 == 0 || !y.2.2.testBit x.2.1 ||(pre.getD i 0).testBit j)&&(x.2.1 == 0 || x.2.1 !=y.2.1)&& i !=j
def okB(D:List(Nat×Nat×Nat))(pre:List Nat):List Nat→Bool
 | []=>true
 |i :: r=>jbt D pre i r && okB D pre r
def zB(D:List(Nat×Nat×Nat))(pre:List Nat)(es Z:List Nat):Bool:=
 (List.range D.length).all fun i=>es.contains i ||(Z.contains i && es.all fun j=>(pre.getD i 0).testBit j)
theorem jeJ{D:List(Nat×Nat×Nat)}{pre:List Nat}:∀{a:List Nat}{i:Nat}{r:List Nat},okB D pre(a ++ i :: r)=true→jbt D pre i r=true
 | [],i,r,h=>by simp only [List.nil_append,okB,Bool.and_eq_true] at h;exact h.1
 |b :: a,i,r,h=>by simp only [List.cons_append,okB,Bool.and_eq_true] at h;exact jeJ h.2
theorem JM{D:List(Nat×Nat×Nat)}{pre:List Nat}{i j:Nat}{r:List Nat}{x y:Nat×Nat×Nat}(h:jbt D pre i r=true)(hx:D[i]? =some x)(hj:j∈r)(hy:D[j]? =some y):
  (∀s,y.2.1=s+1→x.2.2.testBit(s+1)=true→(pre.getD i 0).testBit j=true)∧(∀s,x.2.1=s+1→y.2.2.testBit(s+1)=true→(pre.getD i 0).testBit j=true)∧(∀s,x.2.1=s+1→y.2.1≠s+1)∧i≠j:=by
 unfold jbt at h
 rw [hx] at h
 simp only [Bool.and_eq_true] at h
 have h2:=List.all_eq_true.1 h.2 j hj
 rw [hy] at h2
 simp only [Bool.and_eq_true,Bool.or_eq_true,beq_iff_eq,Bool.not_eq_true',bne_iff_ne,ne_eq] at h2
 obtain⟨⟨⟨q1,q2⟩,q3⟩,q4⟩ :=h2
 refine⟨fun s e b=> ?_,fun s e b=> ?_,fun s e e'=> ?_,q4⟩
 ·rcases q1 with(q |q)|q
  ·omega
  ·rw [e,b] at q;cases q
  ·exact q
 ·rcases q2 with(q |q)|q
  ·omega
  ·rw [e,b] at q;cases q
  ·exact q
 ·rcases q3 with q |q
  ·omega
  ·exact q(by rw [e,e'])
theorem jdk{a0:Act}{s:Nat}{u:Value}{w:World}:∀{L:List Ent},(∀e∈L,e.d=s+1→e.Φ u w)→((∀e∈L,e.d≠s+1)→u=a0.tmps.getD s undef)→ZD a0 s L u w
 | [],_,h=>h(by simp)
 |e :: r,h1,h2=>by
  unfold ZD
  by_cases hd:e.d=s+1
  ·rw [if_pos(by simp [hd])]
   exact h1 e(List.mem_cons_self ..)hd
  ·rw [if_neg(by simp [hd])]
   exact jdk(fun e he=>h1 e(List.mem_cons_of_mem _ he))fun hn=>h2 fun e' he'=>by
    rcases List.mem_cons.1 he' with rfl |q
    ·exact hd
    ·exact hn e' q
theorem zU{R:World→World→Prop}{w0:World}{a0:Act}:∀{A:List Ent}{e:Ent}{B:List Ent},jg0 P ops Q R w0 a0(A ++ e :: B)→jcR P ops Q R w0 a0 B e
 | [],_,_,h=>h.1
 |_ :: _,_,_,h=>zU h.2
structure Inv(ops:Array Oper)(R:World→World→Prop)(w0:World)(a0:Act)(pre:List Nat)(L:List Ent)(done:Nat)(listed:Array Bool)(a:Act)(w:World):Prop where
 hL:Listed ops.size done listed
 hR:R w0 w
 h2:∀e∈L,done.testBit e.i=true→∃v,e.Φ v w∧∀s,e.d=s+1→a.tmps.getD s undef=v
 h3:∀s,(∀e∈L,done.testBit e.i=true→e.d≠s+1)→a.tmps.getD s undef=a0.tmps.getD s undef
 h4:a.tmps.size=a0.tmps.size∧a.defers=a0.defers
 h5:∀i,i < ops.size→done.testBit i=true→∀k,k < ops.size→(pre.getD i 0).testBit k=true→done.testBit k=true
 h6:∀i,done.testBit i=true→i∈L.map(·.i)
 h7:∀e∈L,∀e'∈L,e.i≠e'.i→done.testBit e.i=true→done.testBit e'.i=true→e.nw=true→e'.nw=true→blk(a.tmps.getD(e.d - 1)undef)≠blk(a.tmps.getD(e'.d - 1)undef)
theorem YE{a:Act}{s:Nat}{v:Value}(h:s < a.tmps.size):(a.put(some s)v).tmps.getD s undef=v:=by simp [Act.put,Array.getD,h]
theorem yq{a:Act}{d:Option Nat}{s:Nat}{v:Value}(h:d≠some s):(a.put d v).tmps.getD s undef=a.tmps.getD s undef:=by
 cases d with
 |none=>rfl
 |some d =>
  have:d≠s:=fun e=>h(by rw [e])
  simp only [Act.put,Array.getD_eq_getD_getElem?,Array.getElem?_setIfInBounds,if_neg this]
theorem jdy{a:Act}{d:Option Nat}{v:Value}:(a.put d v).tmps.size=a.tmps.size:=by cases d <;> simp [Act.put]
theorem jaH{a:Act}{d:Option Nat}{v:Value}:(a.put d v).defers=a.defers:=by cases d <;> rfl
theorem jkg{o:Oper}{s:Nat}:QC o=s+1↔o.dst=some s:=by
 unfold QC
 cases o.dst with
 |none=>simp
 |some d=>simp
theorem jah{done:Nat}:∀{es:List Nat},(∃i∈es,done.testBit i=false)→∃A i r,es=A ++ i :: r∧done.testBit i=false∧∀j∈r,done.testBit j=true
 | [],h=>by obtain⟨_,h,_⟩ :=h;simp at h
 |b :: es,h=>by
  by_cases h':∃i∈es,done.testBit i=false
  ·obtain⟨A,i,r,rfl,h1,h2⟩ :=jah h'
   exact⟨b :: A,i,r,rfl,h1,h2⟩
  ·obtain⟨i,hi,hd⟩ :=h
   rcases List.mem_cons.1 hi with rfl |q
   ·exact⟨[],i,es,rfl,hd,fun j hj=>by
     cases hb:done.testBit j with
     |true=>rfl
     |false=>exact absurd⟨j,hj,hb⟩h'⟩
   ·exact absurd⟨i,q,hd⟩h'
def zL(done:Nat)(es:List Nat):Nat:=(es.filter fun i=> !done.testBit i).length
theorem jbB{done:Nat}{es:List Nat}(h:zL done es=0):∀i∈es,done.testBit i=true:=fun i hi=>by
 cases hb:done.testBit i with
 |true=>rfl
 |false =>
  have:i∈es.filter fun i=> !done.testBit i:=List.mem_filter.2⟨hi,by simp [hb]⟩
  rw [List.eq_nil_of_length_eq_zero h] at this
  simp at this
theorem jhM{done k:Nat}{es:List Nat}(h:zL done es=k+1):∃i∈es,done.testBit i=false:=by
 cases hf:es.filter fun i=> !done.testBit i with
 |nil=>unfold zL at h;rw [hf] at h;cases h
 |cons i r =>
  have:i∈es.filter fun i=> !done.testBit i:=by rw [hf];simp
  obtain⟨h1,h2⟩ :=List.mem_filter.1 this
  exact⟨i,h1,by simpa using h2⟩
theorem vZ(done i j:Nat):(done |||(1 <<< i)).testBit j=(done.testBit j || decide(i=j)):=by
 rw [Nat.testBit_or,Nat.one_shiftLeft,Nat.testBit_two_pow]
theorem jbA{done i:Nat}:∀{es:List Nat},es.Nodup→i∈es→done.testBit i=false→zL done es=zL(done |||(1 <<< i))es+1
 | [],_,h,_=>by simp at h
 |b :: es,hn,h,hd=>by
  obtain⟨h1,h2⟩ :=List.nodup_cons.1 hn
  unfold zL
  rw [List.filter_cons,List.filter_cons,vZ]
  rcases List.mem_cons.1 h with rfl |q
  ·have:es.filter(fun j=> !(done |||(1 <<< i)).testBit j)=es.filter fun j=> !done.testBit j:=List.filter_congr fun j hj=>by
    have:i≠j:=fun e=>h1(e ▸ hj)
    rw [vZ];simp [this]
   rw [this];simp [hd]
  ·have hib:i≠b:=fun e=>h1(e ▸ q)
   have:=jbA h2 q hd
   unfold zL at this
   cases hb:done.testBit b <;> simp [hib,this]
theorem jh4{D:List(Nat×Nat×Nat)}{pre:List Nat}(hp:jkx D pre=true){i:Nat}{x:Nat×Nat×Nat}(hi:D[i]? =some x){done:Nat}(hdep:∀k,x.1.testBit k=true→done.testBit k=true)
  (h5:∀i,i < D.length→done.testBit i=true→∀k,(pre.getD i 0).testBit k=true→k < D.length→done.testBit k=true):∀k,k < D.length→(pre.getD i 0).testBit k=true→done.testBit k=true:=fun k hk hb=>by
 have hil:i < D.length:=(List.getElem?_eq_some_iff.1 hi).1
 have h1:=List.all_eq_true.1 hp i(List.mem_range.2 hil)
 rw [hi] at h1
 have h2:=List.all_eq_true.1 h1 k(List.mem_range.2 hk)
 simp only [Bool.or_eq_true,Bool.not_eq_true'] at h2
 rcases h2 with(q |q)|q
 ·rw [hb] at q;cases q
 ·exact hdep k q
 ·obtain⟨d,hd,q2⟩ :=List.any_eq_true.1 q
  rw [Bool.and_eq_true] at q2
  exact h5 d(List.mem_range.1 hd)(hdep d q2.1)k q2.2 hk
theorem jbz{R:World→World→Prop}(htr:∀a b c,R a b→R b c→R a c){w0:World}{a0:Act}{D:List(Nat×Nat×Nat)}{pre:List Nat}{L:List Ent}{Z:List Nat}
  (hD:ops.toList.map(vr ops)=D)(hsub:∀(j:Nat)o,ops[j]? =some o→∀e∈o.after,e.on < ops.size)(hc:jg0 P ops Q R w0 a0 L)(hn:(L.map(·.i)).Nodup)
  (hp:jkx D pre=true)(hok:okB D pre(L.map(·.i))=true)(hz:zB D pre(L.map(·.i))Z=true)(hb:∀e∈L,e.d≤a0.tmps.size)(hes:∀e∈L,e.i < ops.size)
  (hF:∀listed done a w,Inv ops R w0 a0 pre L done listed a w→zL done(L.map(·.i))=0→wpAny P .any ops Q Z.length listed a w):
  ∀(k:Nat)(listed:Array Bool)(done:Nat)(a:Act)(w:World),Inv ops R w0 a0 pre L done listed a w→zL done(L.map(·.i))=k→wpAny P .any ops Q(k+Z.length)listed a w
 |0,listed,done,a,w,hi,hk=>by rw [Nat.zero_add];exact hF listed done a w hi hk
 |k+1,listed,done,a,w,hi,hk=>by
  have hlen:D.length=ops.size:=by rw [← hD];simp
  have hDi:∀(j:Nat)oj,ops[j]? =some oj→D[j]? =some(vr ops oj):=fun j oj hj=>by
   rw [← hD,List.getElem?_map,Array.getElem?_toList,hj];rfl
  obtain⟨A,i,r,hes',hdi,hr⟩ :=jah(jhM hk)
  rw [show k+1+Z.length=(k+Z.length)+1 by omega]
  refine⟨fun h0=> ?_,fun j hj=> ?_⟩
  ·exfalso
   have hci:=jeJ(hes' ▸ hok)
   have hil:i < ops.size:=by
    have:i∈L.map(·.i):=by rw [hes'];simp
    obtain⟨e,he,rfl⟩ :=List.mem_map.1 this
    exact hes e he
   have ho:ops[i]? =some ops[i]:=Array.getElem?_eq_getElem hil
   have:i∈Region.ready .any ops listed:=mem_ready.2⟨(hi.hL.2 i hil).trans hdi,ops[i],ho,fun e he hbn=>hi.hL.on(by
    have hd:(vr ops ops[i]).1.testBit e.on=true:=(ya ops[i] e.on).2⟨e,he,hbn,rfl⟩
    unfold jbt at hci
    rw [hDi i _ ho] at hci
    simp only [Bool.and_eq_true] at hci
    have:=List.all_eq_true.1 hci.1 e.on(List.mem_range.2(by rw [hlen];exact hsub i _ ho e he))
    rw [hd] at this
    simp at this
    exact hr _ this)(hsub i _ ho e he)⟩
   rw [h0] at this
   cases this
  ·obtain⟨h0,oj,hoj,hall⟩ :=mem_ready.1 hj
   have hjl:=hi.hL.lt h0
   rw [hi.hL.2 j hjl] at h0
   have hdep:∀k,(vr ops oj).1.testBit k=true→done.testBit k=true:=fun k hk=>by
    obtain⟨e,he,hbn,rfl⟩ :=(ya oj k).1 hk
    exact hi.hL.off(hall e he hbn)
   have hpre:=jh4 hp(hDi j oj hoj)hdep(fun i hi' hd k hk hkl=>hi.h5 i(by omega)hd k(by omega)hk)
   have hjes:j∈L.map(·.i):=by
    have h1:=List.all_eq_true.1 hz j(List.mem_range.2(by omega))
    rw [Bool.or_eq_true] at h1
    rcases h1 with q |q
    ·simpa using q
    ·exfalso
     rw [Bool.and_eq_true] at q
     have hi':i∈L.map(·.i):=by rw [hes'];simp
     have h2:=List.all_eq_true.1 q.2 i hi'
     have hil:i < ops.size:=by
      obtain⟨e,he,rfl⟩ :=List.mem_map.1 hi'
      exact hes e he
     rw [hpre i(by omega)h2] at hdi
     cases hdi
   obtain⟨e,he,rfl⟩ :=List.mem_map.1 hjes
   obtain⟨L1,L2,rfl⟩ :=List.append_of_mem he
   have hg:=zU hc
   have hde:=hg.1 oj hoj
   have cond_at:∀{A:List Ent}{x:Ent}{B:List Ent},L1 ++ e :: L2=A ++ x :: B→jbt D pre x.i(B.map(·.i))=true:=fun{A x B}q=>by
    rw [q,List.map_append,List.map_cons] at hok
    exact jeJ hok
   have hce:=cond_at(A:=L1)(x:=e)(B:=L2)rfl
   have spec2:∀e'∈L2,∃o',ops[e'.i]? =some o'∧QC o'=e'.d:=fun e' he'=>by
    have hl:=hes e'(by simp [he'])
    have ho':ops[e'.i]? =some(ops[e'.i]'hl):=Array.getElem?_eq_getElem hl
    obtain⟨A',B',rfl⟩ :=List.append_of_mem he'
    have hg':jcR P ops Q R w0 a0 B' e':=zU(A:=L1 ++ e :: A')(by rw [List.append_assoc,List.cons_append];exact hc)
    exact⟨_,ho',hg'.1 _ ho'⟩
   have hlook:∀s,(oj.looksAt ops).contains s=true→ZD a0 s L2(a.tmps.getD s undef)w:=fun s hs=>by
    have hls:(vr ops oj).2.2.testBit(s+1)=true:=(jdl oj s).trans hs
    refine jdk(fun e' he' hd'=> ?_)fun hno=> ?_
    ·obtain⟨o',ho',hdy⟩ :=spec2 e' he'
     have cs:=JM hce(hDi _ _ hoj)(List.mem_map.2⟨e',he',rfl⟩)(hDi _ _ ho')
     have hdd:done.testBit e'.i=true:=hpre e'.i(by have:=hes e'(by simp [he']);omega)(cs.1 s(by rw [← hd',← hdy];rfl)hls)
     obtain⟨v,hv,hs'⟩ :=hi.h2 e'(by simp [he'])hdd
     rw [hs' s hd']
     exact hv
    ·refine hi.h3 s fun e' he' hd'=> ?_
     rcases List.mem_append.1 he' with q |q
     ·obtain⟨A',B',rfl⟩ :=List.append_of_mem q
      intro hds
      have hl:=hes e'(by simp)
      have ho':ops[e'.i]? =some(ops[e'.i]'hl):=Array.getElem?_eq_getElem hl
      have hg':jcR P ops Q R w0 a0(B' ++ e :: L2)e':=zU(A:=A')(by rw [← List.cons_append,← List.append_assoc];exact hc)
      have hce':=cond_at(A:=A')(x:=e')(B:=B' ++ e :: L2)(by simp)
      have cs:=JM hce'(hDi _ _ ho')(j:=e.i)(List.mem_map.2⟨e,by simp,rfl⟩)(hDi _ _ hoj)
      have hb':=cs.2.1 s(by rw [← hds,← hg'.1 _ ho'];rfl)hls
      rw [hi.h5 e'.i hl hd' e.i hjl hb'] at h0
      cases h0
     ·rcases List.mem_cons.1 q with rfl |q
      ·rw [hd'] at h0;cases h0
      ·exact hno e' q
   refine wpOp_mono(fun a' w'⟨v,ha',hR',hΦ,zY⟩ => ?_)(hg.2.2.1 oj hoj a w hi.hR hlook)
   subst ha'
   have hdst:∀s,oj.dst=some s↔e.d=s+1:=fun s=>by rw [← hde,jkg]
   have hother:∀e'∈L1 ++ e :: L2,done.testBit e'.i=true→∀s,e'.d=s+1→oj.dst≠some s:=fun e' he' hd' s hs hq=>by
    have hq':=(hdst s).1 hq
    rcases List.mem_append.1 he' with q |q
    ·obtain⟨A',B',rfl⟩ :=List.append_of_mem q
     have hl:=hes e'(by simp)
     have ho':ops[e'.i]? =some(ops[e'.i]'hl):=Array.getElem?_eq_getElem hl
     have hg':jcR P ops Q R w0 a0(B' ++ e :: L2)e':=zU(A:=A')(by rw [← List.cons_append,← List.append_assoc];exact hc)
     have hce':=cond_at(A:=A')(x:=e')(B:=B' ++ e :: L2)(by simp)
     have cs:=JM hce'(hDi _ _ ho')(j:=e.i)(List.mem_map.2⟨e,by simp,rfl⟩)(hDi _ _ hoj)
     exact cs.2.2.1 s(by rw [← hs,← hg'.1 _ ho'];rfl)(by rw [← hq',← hde];rfl)
    ·rcases List.mem_cons.1 q with rfl |q
     ·rw [hd'] at h0;cases h0
     ·obtain⟨o',ho',hdy⟩ :=spec2 e' q
      have cs:=JM hce(hDi _ _ hoj)(List.mem_map.2⟨e',q,rfl⟩)(hDi _ _ ho')
      exact cs.2.2.1 s(by rw [← hq',← hde];rfl)(by rw [← hs,← hdy];rfl)
   have hstab:∀e'∈L1 ++ e :: L2,∀u,e'.Φ u w→e'.Φ u w':=fun e' he' u hu=>by
    obtain⟨A',B',hq⟩ :=List.append_of_mem he'
    have hg':jcR P ops Q R w0 a0 B' e':=zU(A:=A')(hq ▸ hc)
    exact hg'.2.1 u w w' hu hR'
   refine jbz htr hD hsub hc hn hp hok hz hb hes hF k _(done |||(1 <<< e.i))_ w'⟨hi.hL.set hjl,htr _ _ _ hi.hR hR',fun e' he' hd'=> ?_,fun s hs=> ?_,⟨jdy.trans hi.h4.1,jaH.trans hi.h4.2⟩,fun i' hi' hd' k' hkl' hk'=> ?_,fun i' hd'=> ?_,fun x hx y hy hxy hdx hdy hnx hny=> ?_⟩?_
   ·rw [vZ,Bool.or_eq_true,decide_eq_true_eq] at hd'
    rcases hd' with q |q
    ·obtain⟨v',hv',hs'⟩ :=hi.h2 e' he' q
     exact⟨v',hstab e' he' v' hv',fun s hs=>by rw [yq(hother e' he' q s hs)];exact hs' s hs⟩
    ·have:e'=e:=by
      rw [List.map_append,List.map_cons] at hn
      have hn2:=List.nodup_append.1 hn
      rcases List.mem_append.1 he' with z |z
      ·exact absurd rfl(hn2.2.2 e'.i(List.mem_map.2⟨e',z,rfl⟩)e'.i(by rw [← q];simp))
      ·rcases List.mem_cons.1 z with z |z
       ·exact z
       ·exfalso
        refine(List.nodup_cons.1 hn2.2.1).1 ?_
        rw [q]
        exact List.mem_map.2⟨e',z,rfl⟩
     subst this
     refine⟨v,hΦ,fun s hs=> ?_⟩
     rw [(hdst s).2 hs]
     exact YE(by rw [hi.h4.1];have:=hb e' he';omega)
   ·have he:oj.dst≠some s:=fun q=>hs e he(by rw [vZ];simp)((hdst s).1 q)
    rw [yq he]
    exact hi.h3 s fun e' he' hd'=>hs e' he'(by rw [vZ,hd'];rfl)
   ·rw [vZ,Bool.or_eq_true,decide_eq_true_eq] at hd' ⊢
    zL
    rcases hd' with q |q
    ·exact hi.h5 i' hi' q k' hkl' hk'
    ·subst q
     exact hpre k'(by omega)hk'
   ·rw [vZ,Bool.or_eq_true,decide_eq_true_eq] at hd'
    rcases hd' with q |q
    ·exact hi.h6 i' q
    ·rw [← q];exact hjes
   ·have dpos:∀z∈L1 ++ e :: L2,z.nw=true→z.d≠0∧∀u w,z.Φ u w→∃g,blk u=some g∧g < w.heap.size:=fun z hz hnz=>by
     obtain⟨A',B',hq⟩ :=List.append_of_mem hz
     have hg':jcR P ops Q R w0 a0 B' z:=zU(A:=A')(hq ▸ hc)
     exact hg'.2.2.2 hnz
    have same:∀z∈L1 ++ e :: L2,z.i=e.i→z=e:=fun z hz q=>by
     have hn':=hn
     rw [List.map_append,List.map_cons] at hn'
     have hn2:=List.nodup_append.1 hn'
     rcases List.mem_append.1 hz with t |t
     ·exact absurd q(hn2.2.2 z.i(List.mem_map.2⟨z,t,rfl⟩)e.i(by simp))
     ·rcases List.mem_cons.1 t with t |t
      ·exact t
      ·exfalso
       refine(List.nodup_cons.1 hn2.2.1).1 ?_
       rw [← q]
       exact List.mem_map.2⟨z,t,rfl⟩
    have old:∀z∈L1 ++ e :: L2,done.testBit z.i=true→z.nw=true→(a.put oj.dst v).tmps.getD(z.d - 1)undef=a.tmps.getD(z.d - 1)undef∧∃g,blk(a.tmps.getD(z.d - 1)undef)=some g∧g < w.heap.size:=fun z hz hdz hnz=>by
     obtain⟨d0,hb'⟩ :=dpos z hz hnz
     have hs:z.d=(z.d - 1)+1:=by omega
     obtain⟨v',hv',hs'⟩ :=hi.h2 z hz hdz
     refine⟨yq(hother z hz hdz _ hs),?_⟩
     rw [hs' _ hs]
     exact hb' v' w hv'
    have new:e.nw=true→(a.put oj.dst v).tmps.getD(e.d - 1)undef=v:=fun hne=>by
     have d0:=(dpos e he hne).1
     have hs:e.d=(e.d - 1)+1:=by omega
     rw [(hdst(e.d - 1)).2 hs]
     exact YE(by rw [hi.h4.1];have:=hb e he;omega)
    rw [vZ,Bool.or_eq_true,decide_eq_true_eq] at hdx hdy
    rcases hdx with qx |qx
    ·rcases hdy with qy |qy
     ·rw [(old x hx qx hnx).1,(old y hy qy hny).1]
      exact hi.h7 x hx y hy hxy qx qy hnx hny
     ·have:=same y hy qy.symm
      subst this
      obtain⟨o1,g,o2,o3⟩ :=old x hx qx hnx
      rw [o1,o2,new hny]
      intro q
      have:=zY hny g q.symm
      omega
    ·have:=same x hx qx.symm
     subst this
     rcases hdy with qy |qy
     ·obtain⟨o1,g,o2,o3⟩ :=old y hy qy hny
      rw [o1,o2,new hnx]
      intro q
      have:=zY hnx g q
      omega
     ·exact absurd(congrArg Ent.i(same y hy qy.symm)).symm hxy
   ·have:=jbA hn hjes h0
    omega
theorem Zm{a0:Act}{v:Nat→Value}:∀{L:List Ent},(yP a0 v L).tmps.size=a0.tmps.size
 | []=>rfl
 |e :: r=>jdy.trans Zm
theorem ZM{a0:Act}{v:Nat→Value}:∀{L:List Ent},(yP a0 v L).defers=a0.defers
 | []=>rfl
 |e :: r=>jaH.trans ZM
theorem jfB{d s:Nat}(h:d≠s+1):zu d≠some s:=by
 cases d with
 |zero=>simp [zu]
 |succ d=>simp [zu];omega
theorem jaG{a0:Act}{v:Nat→Value}{s:Nat}:∀{L:List Ent},(∀e∈L,e.d≠s+1)→(yP a0 v L).tmps.getD s undef=a0.tmps.getD s undef
 | [],_=>rfl
 |e :: r,h=>(yq(jfB(h e(List.mem_cons_self ..)))).trans(jaG fun e' he'=>h e'(List.mem_cons_of_mem _ he'))
theorem jfT{a0:Act}{v:Nat→Value}{s:Nat}{x:Value}:∀{L:List Ent},(∀e∈L,e.d≤a0.tmps.size)→(∃e∈L,e.d=s+1)→(∀e∈L,e.d=s+1→v e.i=x)→(yP a0 v L).tmps.getD s undef=x
 | [],_,h,_=>by obtain⟨_,h,_⟩ :=h;simp at h
 |e :: r,hb,h,hx=>by
  by_cases hd:e.d=s+1
  ·show((yP a0 v r).put(zu e.d)(v e.i)).tmps.getD s undef=x
   rw [hd,hx e(List.mem_cons_self ..)hd]
   exact YE(by rw [Zm];have:=hb e(List.mem_cons_self ..);omega)
  ·show((yP a0 v r).put(zu e.d)(v e.i)).tmps.getD s undef=x
   rw [yq(jfB hd)]
   refine jfT(fun e' he'=>hb e'(List.mem_cons_of_mem _ he'))?_ fun e' he'=>hx e'(List.mem_cons_of_mem _ he')
   obtain⟨e',he',hd'⟩ :=h
   rcases List.mem_cons.1 he' with rfl |q
   ·exact absurd hd' hd
   ·exact⟨e',q,hd'⟩
theorem jft{v:Nat→Value}{w:World}:∀{L:List Ent},(∀e∈L,e.Φ(v e.i)w)→jgZ v w L
 | [],_=>trivial
 |e :: r,h=>⟨h e(List.mem_cons_self ..),jft fun e' he'=>h e'(List.mem_cons_of_mem _ he')⟩
theorem jiR{a b:Act}(h1:a.tmps.size=b.tmps.size)(h2:∀s,a.tmps.getD s undef=b.tmps.getD s undef)(h3:a.defers=b.defers):a=b:=by
 cases a with
 |mk ta da =>
  cases b with
  |mk tb db =>
   simp only at h1 h2 h3
   subst h3
   congr 1
   apply Array.ext h1
   intro i hi hi'
   have:=h2 i
   simpa [Array.getD,hi,hi'] using this
theorem ji7{R:World→World→Prop}{w0:World}{a0:Act}{pre:List Nat}{L:List Ent}{done:Nat}{listed:Array Bool}{a:Act}{w:World}(hi:Inv ops R w0 a0 pre L done listed a w)(hn:(L.map(·.i)).Nodup)
  (hdis:∀e∈L,∀e'∈L,∀s,e.d=s+1→e'.d=s+1→e.i=e'.i)(hb:∀e∈L,e.d≤a0.tmps.size)(hall:∀e∈L,done.testBit e.i=true)(hnz:∀e∈L,e.nw=true→e.d≠0):∃v:Nat→Value,a=yP a0 v L∧jgZ v w L∧∀i j,Zj L i=true→Zj L j=true→i≠j→blk(v i)≠blk(v j):=by
 have uniq:∀e∈L,∀e'∈L,e.i=e'.i→e=e':=fun e he e' he' q=>by
  obtain⟨A,B,rfl⟩ :=List.append_of_mem he
  rw [List.map_append,List.map_cons] at hn
  have hn2:=List.nodup_append.1 hn
  rcases List.mem_append.1 he' with z |z
  ·exact absurd q.symm(hn2.2.2 e'.i(List.mem_map.2⟨e',z,rfl⟩)e.i(by simp))
  ·rcases List.mem_cons.1 z with z |z
   ·exact z.symm
   ·exfalso
    refine(List.nodup_cons.1 hn2.2.1).1 ?_
    rw [q]
    exact List.mem_map.2⟨e',z,rfl⟩
 have ch:∀i,∃v:Value,∀e∈L,e.i=i→e.Φ v w∧∀s,e.d=s+1→a.tmps.getD s undef=v:=fun i=>by
  by_cases h:∃e∈L,e.i=i
  ·obtain⟨e,he,rfl⟩ :=h
   obtain⟨v,h1,h2⟩ :=hi.h2 e he(hall e he)
   exact⟨v,fun e' he' q=>by rw [uniq e' he' e he q];exact⟨h1,h2⟩⟩
  ·exact⟨undef,fun e he q=>absurd⟨e,he,q⟩h⟩
 refine⟨fun i=>(ch i).choose,jiR(hi.h4.1.trans Zm.symm)(fun s=> ?_)(hi.h4.2.trans ZM.symm),jft fun e he=>((ch e.i).choose_spec e he rfl).1,fun i j hni hnj hij=> ?_⟩
 rotate_left
 ·obtain⟨e,he,h1⟩ :=List.any_eq_true.1 hni
  obtain⟨e',he',h2⟩ :=List.any_eq_true.1 hnj
  simp only [Bool.and_eq_true,beq_iff_eq] at h1 h2
  obtain⟨rfl,n1⟩ :=h1
  obtain⟨rfl,n2⟩ :=h2
  have c1:=((ch e.i).choose_spec e he rfl).2(e.d - 1)(by have:=hnz e he n1;omega)
  have c2:=((ch e'.i).choose_spec e' he' rfl).2(e'.d - 1)(by have:=hnz e' he' n2;omega)
  show blk(ch e.i).choose≠blk(ch e'.i).choose
  rw [← c1,← c2]
  exact hi.h7 e he e' he' hij(hall e he)(hall e' he')n1 n2
 by_cases h:∃e∈L,e.d=s+1
 ·obtain⟨e,he,hd⟩ :=h
  refine(jfT hb⟨e,he,hd⟩fun e' he' hd'=> ?_).symm
  have hq:=hdis e' he' e he s hd' hd
  show(ch e'.i).choose=_
  exact(((ch e'.i).choose_spec e' he' rfl).2 s hd').symm
 ·rw [jaG fun e he hd=>h⟨e,he,hd⟩]
  exact hi.h3 s fun e he _ hd=>h⟨e,he,hd⟩
def jco:List Nat→Bool
 | []=>true
 |i :: r=> !r.contains i && jco r
theorem jas:∀{l:List Nat},jco l=true→l.Nodup
 | [],_=>List.nodup_nil
 |i :: r,h=>by
  simp only [jco,Bool.and_eq_true,Bool.not_eq_true'] at h
  refine List.nodup_cons.2⟨fun hm=> ?_,jas h.2⟩
  have h1:=h.1
  rw [List.contains_iff_mem.2 hm] at h1
  cases h1
def jmc(D:List(Nat×Nat×Nat))(es:List Nat):Bool:=es.all fun i=>es.all fun j=>i == j ||(D.getD i(0,0,0)).2.1 == 0 ||(D.getD i(0,0,0)).2.1 !=(D.getD j(0,0,0)).2.1
def jhv(D:List(Nat×Nat×Nat))(pre es Z:List Nat)(lz:List Bool)(n:Nat):Bool:=
 jco es && jkx D pre && okB D pre es && zB D pre es Z && jmc D es && es.all(fun i=>i < D.length &&(D.getD i(0,0,0)).2.1≤n)&& lz ==(List.range D.length).map(fun i=>es.contains i)&& es.length+Z.length == D.length
theorem ja9{R:World→World→Prop}(hrf:∀w,R w w)(htr:∀a b c,R a b→R b c→R a c){id:Nat}{a:Act}{w:World}(σ Z pre:List Nat)(lz:List Bool)(D:List(Nat×Nat×Nat))(hm:P.follows .mixedOrders=true)(hin:y7 ops=true)
  (hD:ops.toList.map(vr ops)=D)(hp:jhv D pre σ.reverse Z lz a.tmps.size=true)
  (h:Qa P ops Q R w.drew a(fun L=>∀v w',R w.drew w'→jgZ v w' L→(∀i j,Zj L i=true→Zj L j=true→i≠j→blk(v i)≠blk(v j))→wpAny P .any ops Q Z.length lz.toArray(putE a v L)w') [] σ):(Code.region id ops true).wp P Q a w:=by
 obtain⟨L,hc,hLi,hF⟩ :=jfz σ [] h trivial
 simp only [List.map_nil,List.append_nil] at hLi
 simp only [jhv,Bool.and_eq_true,beq_iff_eq] at hp
 obtain⟨⟨⟨⟨⟨⟨⟨h1,h2⟩,h3⟩,h4⟩,h5⟩,h6⟩,h7⟩,h8'⟩ :=hp
 rw [← hLi] at h1 h3 h4 h5 h6 h7
 have hlen:D.length=ops.size:=by rw [← hD];simp
 have hsub:∀(j:Nat)o,ops[j]? =some o→∀e∈o.after,e.on < ops.size:=fun j o ho e he=>by
  have q:=Array.all_eq_true_iff_forall_mem.1 hin o(Array.mem_of_getElem? ho)
  simpa using Array.all_eq_true_iff_forall_mem.1 q e he
 have hes:∀e∈L,e.i < ops.size∧(D.getD e.i(0,0,0)).2.1≤a.tmps.size:=fun e he=>by
  have:=List.all_eq_true.1 h6 e.i(List.mem_map.2⟨e,he,rfl⟩)
  simp only [Bool.and_eq_true,decide_eq_true_eq] at this
  exact⟨by omega,this.2⟩
 have hd:∀e∈L,(D.getD e.i(0,0,0)).2.1=e.d:=fun e he=>by
  have hl:=(hes e he).1
  have ho:ops[e.i]? =some ops[e.i]:=Array.getElem?_eq_getElem hl
  obtain⟨A,B,rfl⟩ :=List.append_of_mem he
  have hg:=zU hc
  rw [← hg.1 _ ho,← hD,List.getD_eq_getElem?_getD,List.getElem?_map,Array.getElem?_toList,ho]
  rfl
 have hb:∀e∈L,e.d≤a.tmps.size:=fun e he=>by rw [← hd e he];exact(hes e he).2
 have hdis:∀e∈L,∀e'∈L,∀s,e.d=s+1→e'.d=s+1→e.i=e'.i:=fun e he e' he' s q q'=>by
  have:=List.all_eq_true.1(List.all_eq_true.1 h5 e.i(List.mem_map.2⟨e,he,rfl⟩))e'.i(List.mem_map.2⟨e',he',rfl⟩)
  rw [hd e he,hd e' he',q,q'] at this
  simpa using this
 refine wp_region_any hm ?_
 have hleft:zL 0(L.map(·.i))=σ.length:=by
  unfold zL
  rw [List.filter_eq_self.2(fun i _=>by simp)]
  rw [hLi,List.length_reverse]
 have hsz:σ.length+Z.length=ops.size:=by rw [← hlen,← h8',List.length_reverse]
 have main:=jbz(Q:=Q)(Z:=Z)htr hD hsub hc(jas h1)h2 h3 h4 hb(fun e he=>(hes e he).1)(fun listed done a' w' hi h0=>by
  have hall:∀e∈L,done.testBit e.i=true:=fun e he=>jbB h0 e.i(List.mem_map.2⟨e,he,rfl⟩)
  obtain⟨v,rfl,hv,hnw⟩ :=ji7 hi(jas h1)hdis hb hall fun e he hne=>by
   obtain⟨A,B,rfl⟩ :=List.append_of_mem he
   exact((zU hc).2.2.2 hne).1
  have hl:listed=lz.toArray:=by
   apply Array.ext
   ·rw [hi.hL.1,h7];simp [hlen]
   ·intro i q1 q2
    have hii:i < ops.size:=by rw [← hi.hL.1];exact q1
    have h8:=hi.hL.2 i hii
    have h9:listed[i]=done.testBit i:=by simpa [Array.getD,q1] using h8
    rw [h9]
    have:lz.toArray[i]=(L.map(·.i)).contains i:=by simp [h7]
    rw [this,Bool.eq_iff_iff,List.contains_iff_mem]
    exact⟨fun q=>hi.h6 i q,fun q=>jbB h0 i q⟩
  rw [hl]
  exact hF v w' hi.hR hv hnw)σ.length(Array.replicate ops.size false)0 a w.drew⟨⟨by simp,fun j hj=>by simp [Array.getD,hj]⟩,hrf _,fun e _ q=>by simp at q,fun s _=>rfl,⟨rfl,rfl⟩,fun i _ q=>by simp at q,fun i q=>by simp at q,fun e _ e' _ _ q=>by simp at q⟩hleft
 rw [hsz] at main
 exact main
def jiQ(ev:Operand→Value):Prop:=(∀c,ev(.const c)=c)∧(∀f,ev(.func f)= .func(.func f)#[] #[])∧∀g,ev(.global g)= .pointer(some⟨g,0,none⟩)
theorem jkX(a:Act):jiQ a.eval:=⟨fun _=>rfl,fun _=>rfl,fun _=>rfl⟩
theorem jz{b:Act}{s:Nat}:b.tmps[s]?.getD undef=b.eval(.tmp s):=(Array.getD_eq_getD_getElem? ..).symm
theorem JF{o:Oper}{y:Nat→Option Bool}(h:o.guard=none):Region.wanted o y=true:=by unfold Region.wanted;rw [h]
variable{R:World→World→Prop}{w0:World}{a0:Act}{F:List Ent→Prop}{L:List Ent}{i:Nat}{r:List Nat}
theorem jx(o:Oper)(ho':yN ops.toList i=some o)(Φ:Value→World→Prop){d:Nat}(hd:QC o=d)(hΦ:∀u w w',Φ u w→R w w'→Φ u w')(hg:o.guard=none)
  (h:∀(b:Act)w,jiQ b.eval→R w0 w→(∀s,(o.looksAt ops).contains s=true→ZD a0 s L(b.eval(.tmp s))w)→∀K':Act→World→Prop,Shut(∀v w',R w w'→Φ v w'→K'(b.put o.dst v)w')→o.wp P b w K' Q)
  (hr:Qa P ops Q R w0 a0 F(⟨i,d,Φ,false⟩ :: L)r):Qa P ops Q R w0 a0 F L(i :: r):=
 ⟨Φ,d,false,⟨fun o' ho=>by rw [vU ho'] at ho;cases ho;exact hd,hΦ,fun o' ho a w hR hk=>by
  have ho1:=vU ho'
  rw [ho1] at ho
  cases ho
  refine wpOp_step ho1 fun K' hK=> ?_
  rw [if_pos(JF hg)]
  exact h a w(jkX a)hR hk K' fun v w' h1 h2=>hK _ _⟨v,rfl,h1,h2,fun q=>by cases q⟩,fun q=>by cases q⟩,hr⟩
theorem qX(o:Oper)(ho':yN ops.toList i=some o)(Φ:Value→World→Prop){d:Nat}(hd:QC o=d)(hΦ:∀u w w',Φ u w→R w w'→Φ u w')(hg:o.guard=none)(d0:d≠0)(hb:∀u w,Φ u w→∃g,blk u=some g∧g < w.heap.size)
  (h:∀(b:Act)w,jiQ b.eval→R w0 w→(∀s,(o.looksAt ops).contains s=true→ZD a0 s L(b.eval(.tmp s))w)→∀K':Act→World→Prop,Shut(∀v w',R w w'→Φ v w'→(∀g,blk v=some g→w.heap.size≤g)→K'(b.put o.dst v)w')→o.wp P b w K' Q)
  (hr:Qa P ops Q R w0 a0 F(⟨i,d,Φ,true⟩ :: L)r):Qa P ops Q R w0 a0 F L(i :: r):=
 ⟨Φ,d,true,⟨fun o' ho=>by rw [vU ho'] at ho;cases ho;exact hd,hΦ,fun o' ho a w hR hk=>by
  have ho1:=vU ho'
  rw [ho1] at ho
  cases ho
  refine wpOp_step ho1 fun K' hK=> ?_
  rw [if_pos(JF hg)]
  exact h a w(jkX a)hR hk K' fun v w' h1 h2 h3=>hK _ _⟨v,rfl,h1,h2,fun _=>h3⟩,fun _=>⟨d0,hb⟩⟩,hr⟩
theorem jl(hrf:∀w,R w w)(o:Oper)(ho':yN ops.toList i=some o){v:Value}{d:Nat}(hd:QC o=d)(hg:o.guard=none)
  (h:∀(b:Act)w,jiQ b.eval→R w0 w→(∀s,(o.looksAt ops).contains s=true→ZD a0 s L(b.eval(.tmp s))w)→(execOp b.eval o).run P w= .ok(.value v)w)
  (hr:Qa P ops Q R w0 a0 F(⟨i,d,fun u _=>u=v,false⟩ :: L)r):Qa P ops Q R w0 a0 F L(i :: r):=
 jx o ho'(fun u _=>u=v)hd(fun _ _ _ h _=>h)hg(fun b w he hR hk K' hK=>by unfold Oper.wp;rw [h b w he hR hk];exact hK v w(hrf w)rfl)hr
theorem qQ{lz:Array Bool}{a:Act}{w:World}(h1:Region.ready .any ops lz= [])(h:Q .normal a w):wpAny P .any ops Q 0 lz a w:=⟨h1,h⟩
theorem qi{lz:Array Bool}{z n:Nat}{a:Act}{w:World}(o:Oper)(ho':yN ops.toList z=some o)(hg:o.guard=none)(h1:Region.ready .any ops lz= [z])
  (h:∀K':Act→World→Prop,Shut(∀a' w',wpAny P .any ops Q n(lz.setIfInBounds z true)a' w'→K' a' w')→o.wp P a w K' Q):wpAny P .any ops Q(n+1)lz a w:=by
 refine⟨fun q=>absurd q(by rw [h1];simp),fun i hi=> ?_⟩
 rw [h1] at hi
 obtain rfl:i=z:=by simpa using hi
 refine wpOp_step(vU ho')fun K' hK=> ?_
 rw [if_pos(JF hg)]
 exact h K' hK
end
section
variable{P:Program}{ops:Array Oper}{Q:Exit→Act→World→Prop}{R:World→World→Prop}{id:Nat}{a:Act}{w:World}
theorem qgF(hrf:∀w,R w w)(htr:∀a b c,R a b→R b c→R a c)(σ Z pre:List Nat)(lz:List Bool)
  (h:Qa P ops Q R w.drew a(fun L=>∀v w',R w.drew w'→jgZ v w' L→(∀i j,Zj L i=true→Zj L j=true→i≠j→blk(v i)≠blk(v j))→wpAny P .any ops Q Z.length lz.toArray(putE a v L)w') [] σ)(hm:P.follows .mixedOrders=true:=by kernel_rfl)(hin:y7 ops=true:=by kernel_rfl)
  (hp:jhv(ops.toList.map(vr ops))pre σ.reverse Z lz a.tmps.size=true:=by kernel_rfl):(Code.region id ops true).wp P Q a w:=
 ja9 hrf htr σ Z pre lz _ hm hin rfl hp h
end
end
section
open Go.ChangeShapes Go.WideShapes Go.ChangeAt Go.RowKit Go.Deep
set_option maxRecDepth 100000
theorem grown_row{a w:World}{g r:Nat}{C:Array Value}(h:a.grownBy w(some g))(hr:a.heap.size≤r):a.grownBy(w.setRow r C)(some g):=
 ⟨h.os,h.tape,h.output,Nat.le_trans h.size(by simp),fun i hi hne=>(setRow_other _ _ _ _(by omega)).trans(h.block i hi hne)⟩
theorem grown_ext{a b c:World}{g:Nat}(h:a.grownBy b(some g))(e:Ext b c):a.grownBy c(some g):=jt h(jD e)
theorem Sb.row{w:World}{g n c m r:Nat}{A:Option Addr}{d s:Int}{rt:List UInt8}{C:Array Value}(h:Sb w g A n c d s rt m)(hne:g≠r):Sb(w.setRow r C)g A n c d s rt m:=⟨(setRow_other _ _ _ _ hne).trans h.1,h.2⟩
theorem Sb.other{w w':World}{g h' n c m:Nat}{A:Option Addr}{d s:Int}{rt:List UInt8}(h:Sb w g A n c d s rt m)(k:w.grownBy w'(some h'))(hne:g≠h'):Sb w' g A n c d s rt m:=⟨zv k hne h.1,h.2⟩
def jO(xs:List UInt8)(k:Nat):List UInt8:=jC(jC [] xs)(J3 k 8).reverse
theorem srcK_len(xs:List UInt8)(k:Nat):(jO xs k).length=32:=qq _ _
def SrcSt(w:World)(lo g:Nat)(xs:List UInt8)(k:Nat):Prop:=
 (0 < lo∧lo≤g)∧((∃A n c rt,Sb w g A n c 0 0 rt k∧Bs w A n c xs∧∀a,A=some a→lo≤a.block∧a.block < g)∨Sb w g none 0 0 1 0(jC [] xs)k)
theorem SrcSt.lt{w:World}{lo g k:Nat}{xs:List UInt8}(h:SrcSt w lo g xs k):g < w.heap.size:=by
 rcases h.2 with⟨A,n,c,rt,h,_,_⟩ |h <;> exact h.lt
theorem SrcSt.ext{w w':World}{lo g k:Nat}{xs:List UInt8}(h:SrcSt w lo g xs k)(e:Ext w w'):SrcSt w' lo g xs k:=by
 refine⟨h.1,?_⟩
 rcases h.2 with⟨A,n,c,rt,h,hb,hA⟩ |h
 ·exact .inl⟨A,n,c,rt,h.ext e,hb.ext e,hA⟩
 ·exact .inr(h.ext e)
theorem SrcSt.other{w w':World}{lo g k h':Nat}{xs:List UInt8}(h:SrcSt w lo g xs k)(e:w.grownBy w'(some h'))(hne:h' < lo∨g < h'):SrcSt w' lo g xs k:=by
 refine⟨h.1,?_⟩
 have:=h.1.2
 rcases h.2 with⟨A,n,c,rt,h,hb,hA⟩ |h
 ·exact .inl⟨A,n,c,rt,h.other e(by omega),hb.grownK e(fun a q=>by have:=hA a q;omega),hA⟩
 ·exact .inr(h.other e(by omega))
theorem SrcSt.row{w:World}{lo g k r:Nat}{C:Array Value}{xs:List UInt8}(h:SrcSt w lo g xs k)(hr:g < r):SrcSt(w.setRow r C)lo g xs k:=
 h.other⟨rfl,rfl,rfl,by simp,fun i _ hne=>setRow_other _ _ _ _(fun q=>hne(by rw [q]))⟩(.inr hr)
theorem src_built{A:Option Addr}{n c:Nat}:Tryz.prog.built 143 [(0, .slice A n c)]=some(Zp A n c 0 0(List.replicate 32 0)0).toArray:=by kernel_rfl
set_option maxHeartbeats 2000000 in
theorem new_calls{w:World}{A:Option Addr}{n c:Nat}{xs:List UInt8}(h:Bs w A n c xs)(hn:n≤140737488355328){tg:TypeId×Nat×Nat}(hG:Gl w tg):
  Calls Tryz.prog 27 #[.slice A n c] w fun e w'=>∃g,e= .returned(.pointer(some⟨g,0,none⟩))∧SrcSt w' w.heap.size g xs 0∧Ext w w':=by
 have o0:=hd(Own.nil w.heap.size w)
 have lg:=hd hG.lt
 clear hG
 replace h:=hd h
 go_enter Tryz.func27,Tryz.ntmps27
 go_wp2_with(first
  |(at_builtin;(with_reducible refine jJ rfl(B:=w.heap.size)(s:= .const(.slice none 0 0))(x:= .tmp 3)rfl rfl rfl o0.out h.out(by omega)(Nat.le_refl _)?_);intro A1 c1' w1 o1 g1 b1;rw [Nat.zero_add] at *;replace o1:=hd o1;clear g1;replace b1:Hid(Ext w w1):=b1;go_frame)
  |(refine jm rfl _ _ rfl(Zp A1 n c1' 0 0(List.replicate 32 0)0).toArray(by simp only [List.map_toArray,List.map_cons,List.map_nil];exact jgL)?_;go_frame))
 go_ret
 refine⟨_,rfl,⟨⟨lg.out,b1.out.size⟩, .inl⟨A1,n,c1',List.replicate 32 0,⟨heap_alloc_new _ _,rfl⟩,o1.out.bs.ext((Ext.refl _).alloc _),fun a q=> ?_⟩⟩,b1.out.alloc _⟩
 subst q
 have ho:=o1.out
 rcases ho.2 with⟨hv,_⟩ | ⟨g,cap,cur,hv,hge,hg,_⟩
 ·cases hv
 ·injection hv with h1 h2 h3
  injection h1 with h1
  subst h1
  exact⟨hge,jh hg⟩
theorem once_calls{w:World}{lo g k:Nat}{xs:List UInt8}(h:SrcSt w lo g xs k){tg:TypeId×Nat×Nat}(hG:Gl w tg):
  Calls Tryz.prog 134 #[.pointer(some⟨g,1,none⟩), .func(.func 135)#[.pointer(some⟨g,0,none⟩)] #[]] w fun e w'=>e= .returned(.tuple #[])∧w.grownBy w'(some g)∧Sb w' g none 0 0 1 0(jC [] xs)k:=by
 obtain⟨⟨h1,h2⟩,h3⟩ :=h
 rcases h3 with⟨A,n,c,rt,hs,hb,hA⟩ |hs
 ·exact do_first hs hb(fun a q=>by have:=hA a q;omega)hG fun W e=>(e.block _ hG.lt(fun q=>by have:=Option.some.inj q;omega)).trans hG
 ·refine(jiZ hs).mono ?_
  rintro e w'⟨rfl,rfl⟩
  exact⟨rfl,World.grownBy.refl _ _,hs⟩
set_option maxHeartbeats 4000000 in
theorem skey_calls{w:World}{lo g k:Nat}{xs:List UInt8}(h:SrcSt w lo g xs k)(hk:k < 1000000){tg:TypeId×Nat×Nat}(hG:Gl w tg):
  Calls Tryz.prog 110 #[.pointer(some⟨g,0,none⟩)] w fun e w'=>e= .returned(.agg(cellsOf(jO xs k)).toArray)∧w.grownBy w'(some g)∧SrcSt w' lo g xs(k+1):=by
 have hal:∀w,(zeroValue 23).run Tryz.prog w= .ok(.agg(cellsOf(List.replicate 32 0)).toArray)w:=fun w=>by rw [jU];exact j2 w
 have L_zk:(List.replicate 32(0:UInt8)).length=32:=rfl
 generalize List.replicate 32(0:UInt8)=zk at *
 have S_zk:(cellsOf zk).toArray.size=32:=by simp [ja,L_zk]
 have hmf:∀(fn:Fn)(first cap:Array Value)(w:World),(Instr.makeFunc fn first cap).run Tryz.prog w= .ok(.func fn first cap)w:=fun _ _ _ _=>rfl
 have lo2:=hd h.1
 have glt:g < w.heap.size:=h.lt
 have ON:=hd(jeK(h.ext((Ext.refl w).alloc(Obj.cells(cellsOf zk).toArray 23)))(hG.ext((Ext.refl w).alloc _)))
 have gl0:Hid(∀W,(w.alloc(Obj.cells(cellsOf zk).toArray 23)).grownBy W(some g)→Gl W tg∧Ky W w.heap.size zk∧w.grownBy W(some g)):=fun W e =>
  ⟨(e.block _(by rw [je];exact Nat.lt_succ_of_lt hG.lt)(fun q=>by have:=Option.some.inj q;have:=h.1;omega)).trans(hG.ext((Ext.refl w).alloc _)),
   ⟨zv e(by omega)(heap_alloc_new _ _),L_zk⟩,jt(jD((Ext.refl w).alloc _))e⟩
 clear h hG
 have DR:Hid(∀(W:World)(A:Option Addr)(m d:Nat),Gl W tg→Bs W A m d(J3 k 8).reverse→Calls Tryz.prog 114 #[.agg(cellsOf(jC [] xs)).toArray, .slice A m d] W fun e w'=>e= .returned(.agg(cellsOf(jO xs k)).toArray)∧Ext W w'):=fun W A m d hg hb=>Qp(qq _ _)hb hg
 have HI:Hid(∀W,Calls Tryz.prog 116 #[.int .u64(k:Int), .int .i64 8] W(Qw(J3 k 8).reverse W)):=fun W=>Yj(by omega)(by omega)(by omega)(Nat.le_refl _)(by decide)
 have DK:=hd(jdY xs k)
 have FIN:Hid(∀W,Sb W g none 0 0 1 0(jC [] xs)(k+1)→SrcSt W lo g xs(k+1)):=fun W h=>⟨lo2.out, .inr h⟩
 have L_rt:=qq [] xs
 generalize jC [] xs=rt at *
 have L_dk:=DK.out
 generalize jO xs k=dk at *
 have S_rt:(cellsOf rt).length=32:=by simp [ja,L_rt]
 have S_dk:(cellsOf dk).toArray.size=32:=by simp [ja,L_dk]
 have O_dk:=ji dk
 generalize hhs:(J3 k 8).reverse=hs at *
 clear hhs DK lo2
 have cv:IntKind.u64.wrap(k:Int)=(k:Int):=by simp [IntKind.wrap,IntKind.bits,IntKind.signed];omega
 have ad:IntKind.i64.wrap((k:Int)+1)=(k:Int)+1:=IntWalk.i64_in _(by omega)
 go_enter Tryz.func110,Tryz.ntmps110
 go_wp2_with fail
 refine ON.out.mono ?_
 rintro e w1⟨rfl,g1,h1⟩
 obtain⟨r,hr⟩:∃r,r=w.heap.size:=⟨_,rfl⟩
 have P1:=gl0.out _ g1
 rw [← hr] at P1 ⊢
 replace hr:=hd hr
 clear gl0 ON g1
 replace P1:=hd P1
 replace h1:=hd h1
 have Q1:Hid(∀s,Ext w1 s→Sb s g none 0 0 1 0 rt k∧Gl s tg):=fun s e=>⟨h1.out.ext e,P1.out.1.ext e⟩
 go_upto_region 2 with fail
 refine qgF(R:=Ext)Ext.refl(fun _ _ _=>Ext.trans) [0,1,2,3,4,5,6,7,8,9,10,11] [12] [0,1,3,7,0,16,48,112,240,496,1023,0,4095] [true,true,true,true,true,true,true,true,true,true,true,true,false] ?_
 refine free_det(fun _=>Ext.refl _)_ rfl(v:= ?_)(d:=11)rfl rfl ?_ ?_
 rotate_left
 ·intro a_ w_ hev hR hk
  have e0:a_.eval(.tmp 0)=_:=hk 0 rfl
  clear hk
  generalize a_.eval=ev at *
  obtain⟨hev1,hev2,hev3⟩ :=hev
  go_simp
  (try with_reducible rfl)
 refine free_det(fun _=>Ext.refl _)_ rfl(v:= ?_)(d:=12)rfl rfl ?_ ?_
 rotate_left
 ·intro a_ w_ hev hR hk
  have e10:a_.eval(.tmp 10)=_:=hk 10 rfl
  clear hk
  generalize a_.eval=ev at *
  obtain⟨hev1,hev2,hev3⟩ :=hev
  go_simp
  (try with_reducible rfl)
 refine free_det(fun _=>Ext.refl _)_ rfl(v:= ?_)(d:=13)rfl rfl ?_ ?_
 rotate_left
 ·intro a_ w_ hev hR hk
  have e11:a_.eval(.tmp 11)=_:=hk 11 rfl
  clear hk
  generalize a_.eval=ev at *
  obtain⟨hev1,hev2,hev3⟩ :=hev
  go_simp
  (try with_reducible rfl)
 refine free_det(fun _=>Ext.refl _)_ rfl(v:= .agg(cellsOf rt).toArray)(d:=14)rfl rfl ?_ ?_
 ·intro a_ w_ hev hR hk
  have e12:a_.eval(.tmp 12)=_:=hk 12 rfl
  exact(exec_load_mid rfl e12(Q1.out w_(Ext.trans(Ext.refl _).drew hR)).1.at4 rfl rfl(by rw [S_rt];rfl))
 refine free_det(fun _=>Ext.refl _)_ rfl(v:= ?_)(d:=15)rfl rfl ?_ ?_
 rotate_left
 ·intro a_ w_ hev hR hk
  have e0:a_.eval(.tmp 0)=_:=hk 0 rfl
  clear hk
  generalize a_.eval=ev at *
  obtain⟨hev1,hev2,hev3⟩ :=hev
  go_simp
  (try with_reducible rfl)
 refine free_det(fun _=>Ext.refl _)_ rfl(v:= ?_)(d:=16)rfl rfl ?_ ?_
 rotate_left
 ·intro a_ w_ hev hR hk
  have e14:a_.eval(.tmp 14)=_:=hk 14 rfl
  clear hk
  generalize a_.eval=ev at *
  obtain⟨hev1,hev2,hev3⟩ :=hev
  go_simp
  (try with_reducible rfl)
 refine free_det(fun _=>Ext.refl _)_ rfl(v:= ?_)(d:=17)rfl rfl ?_ ?_
 rotate_left
 ·intro a_ w_ hev hR hk
  have e15:a_.eval(.tmp 15)=_:=hk 15 rfl
  clear hk
  generalize a_.eval=ev at *
  obtain⟨hev1,hev2,hev3⟩ :=hev
  go_simp
  (try with_reducible rfl)
 refine free_det(fun _=>Ext.refl _)_ rfl(v:= ?_)(d:=18)rfl rfl ?_ ?_
 rotate_left
 ·intro a_ w_ hev hR hk
  have e16:a_.eval(.tmp 16)=_:=hk 16 rfl
  clear hk
  have hF:=((Q1.out w_(Ext.trans(Ext.refl _).drew hR)).1.cell36)
  generalize a_.eval=ev at *
  obtain⟨hev1,hev2,hev3⟩ :=hev
  go_simp
  (try with_reducible rfl)
 refine free_det(fun _=>Ext.refl _)_ rfl(v:= ?_)(d:=19)rfl rfl ?_ ?_
 rotate_left
 ·intro a_ w_ hev hR hk
  have e17:a_.eval(.tmp 17)=_:=hk 17 rfl
  clear hk
  generalize a_.eval=ev at *
  obtain⟨hev1,hev2,hev3⟩ :=hev
  go_simp
  (try with_reducible rfl)
 refine free_step _ rfl(fun u w_=>∃A n c,u= .slice A n c∧Bs w_ A n c(hs))(d:=20)rfl(fun _ _ _ h e=>by obtain⟨A,n,c,h1,h2⟩ :=h;exact⟨A,n,c,h1,h2.ext e⟩)rfl ?_ ?_
 ·intro a_ w_ hev hR hk K1 hK1
  have e18:a_.eval(.tmp 18)=_:=hk 18 rfl
  clear hk
  have f18:=jz.trans e18
  go_simp
  refine(HI.out _).mono ?_
  rintro e_ w2_⟨A_,n_,c_,rfl,b_,x_⟩
  exact hK1.out _ _ x_⟨A_,n_,c_,rfl,b_⟩
 refine free_step _ rfl(fun u _=>u= .agg(cellsOf dk).toArray)(d:=21)rfl(fun _ _ _ h _=>h)rfl ?_ ?_
 ·intro a_ w_ hev hR hk K1 hK1
  have e13:a_.eval(.tmp 13)=_:=hk 13 rfl
  obtain⟨A_19,N_19,C_19,e19,b19⟩:∃A n c,a_.eval(.tmp 19)= .slice A n c∧Bs w_ A n c _:=hk 19 rfl
  clear hk
  have f13:=jz.trans e13
  have f19:=jz.trans e19
  go_simp
  refine(DR.out _ _ _ _(Q1.out w_(Ext.trans(Ext.refl _).drew hR)).2 b19).mono ?_
  rintro e_ w2_⟨rfl,x_⟩
  exact hK1.out _ _ x_ rfl
 refine free_new _ rfl(fun u w_=>∃g,u= .pointer(some⟨g,0,none⟩)∧w1.drew.heap.size≤g∧w_.heap[g]? =some(.cells(cellsOf zk).toArray 23(0,0)))(d:=4)rfl(fun _ _ _ h e=>by obtain⟨g,h1,h2,h3⟩ :=h;exact⟨g,h1,h2,(e.block g(jh h3)).trans h3⟩)rfl(by decide)(fun _ _ h=>by obtain⟨g,h1,h2,h3⟩ :=h;subst h1;exact⟨g,rfl,jh h3⟩)?_ ?_
 ·intro a_ w_ hev hR hk K1 hK1
  go_simp
  exact hK1.out _ _((Ext.refl _).alloc _)⟨_,rfl,hR.size,heap_alloc_new _ _⟩(fun _ q=>by cases q;exact Nat.le_refl _)
 intro v_ w2 hR hV_ hN_
 obtain⟨hv11,hv10,hv9,hv8,hv7,hv6,hv5,hv4,hv3,hv2,hv1,hv0,_⟩ :=hV_
 replace hv0:v_ 0=_:=hv0
 replace hv1:v_ 1=_:=hv1
 replace hv2:v_ 2=_:=hv2
 replace hv3:v_ 3=_:=hv3
 replace hv4:v_ 4=_:=hv4
 replace hv5:v_ 5=_:=hv5
 replace hv6:v_ 6=_:=hv6
 replace hv7:v_ 7=_:=hv7
 replace hv8:v_ 8=_:=hv8
 skip
 replace hv10:v_ 10=_:=hv10
 skip
 dsimp only [yP,zu]
 obtain⟨A_9,N_9,C_9,hv9,hb_9⟩ :=hv9
 obtain⟨g_11,hv11,gb_11,gc_11⟩ :=hv11
 clear hN_
 rw [hv0,hv1,hv2,hv3,hv4,hv5,hv6,hv7,hv8,hv9,hv10,hv11]
 go_frame
 clear hv0 hv1 hv2 hv3 hv4 hv5 hv6 hv7 hv8 hv9 hv10 hv11
 refine any_more(z:=12)_ rfl rfl(by kernel_rfl)?_
 intro K1 hK1
 refine wp_store_row _ _ _ rfl g_11(cellsOf dk).toArray rfl rfl 23(cellsOf zk).toArray gc_11(by rw [S_dk];rfl)(by rw [S_dk,S_zk])O_dk ?_
 refine hK1.out _ _ ?_
 clear hK1 K1
 refine any_nil(by kernel_rfl)?_
 have E2:Ext w1(w2.setRow g_11(cellsOf dk).toArray):=below_setRow((Ext.refl w1).drew.trans hR)gb_11 _
 have hgr:g < g_11:=Nat.lt_of_lt_of_le h1.out.lt gb_11
 have hrr:r < g_11:=Nat.lt_of_lt_of_le(jh P1.out.2.1.1)gb_11
 refine gen_q(fun W=>Sb W g none 0 0 1 0 rt k∧Ky W r zk∧Ky W g_11 dk∧w.grownBy W(some g))⟨h1.out.ext E2,P1.out.2.1.ext E2,⟨setRow_heap _ _ _ _ _ _ gc_11,L_dk⟩,JR P1.out.2.2 E2⟩?_
 clear E2 hR gc_11 P1 Q1 h1 DR HI
 rintro w3⟨h3,z3,d3,g3⟩
 have c36:=h3.cell36
 have f36:=h3.frozen 36
 have h4:=hd(h3.set36(k+1))
 have gne:g≠g_11:=by omega
 have z4:Hid(Ky(w3.setCell⟨g,36,none⟩(.int .i64((k+1:Nat):Int)))r zk∧Ky(w3.setCell⟨g,36,none⟩(.int .i64((k+1:Nat):Int)))g_11 dk∧w.grownBy(w3.setCell⟨g,36,none⟩(.int .i64((k+1:Nat):Int)))(some g)):=
  ⟨⟨zv jP(by have:=hr.out;omega)z3.1,z3.2⟩,⟨zv jP(by omega)d3.1,d3.2⟩,jt g3 jP⟩
 have k1:((k+1:Nat):Int)=(k:Int)+1:=by omega
 clear h3 z3 d3 g3
 go_upto_region 4 with fail
 refine wp_gen(fun W=>Sb W g none 0 0 1 0 rt(k+1)∧Ky W r zk∧Ky W g_11 dk∧w.grownBy W(some g))(by rw [← k1];exact⟨h4.out,z4.out⟩)?_
 clear h4 z4 c36 f36 k1
 rintro w4⟨h4,z4,d4,g4⟩
 replace h4:=hd h4
 replace z4:=hd z4
 replace d4:=hd d4
 replace g4:=hd g4
 go_wp2_with(first
  |(refine wpList_load_row rfl 23 _ rfl g_11 rfl 23(cellsOf dk).toArray(0,0)_ d4.out.1 rfl rfl(by rw [S_dk];rfl)?_;go_frame)
  |(refine wpList_store_row rfl 23 _ _ rfl r(cellsOf dk).toArray rfl rfl 23 _ z4.out.1(by rw [S_dk];rfl)(by rw [S_dk,S_zk])O_dk ?_;go_frame))
 (try simp only [Exit.inBlock,Exit.then])
 refine bodyPost_ret(results_cell_row rfl _ _ r 23(cellsOf dk).toArray(0,0)_ rfl(setRow_heap _ _ _ _ _ _ z4.out.1)rfl rfl(by rw [S_dk];rfl))rfl ?_
 exact⟨rfl,JS g4.out(by rw [hr.out];exact Nat.le_refl _),FIN.out _(h4.out.row(by have:=hr.out;omega))⟩
end
section
open Go.ChangeShapes Go.WideShapes Go.ChangeAt Go.RowKit Go.Deep Go.Maps
set_option maxRecDepth 100000
set_option maxHeartbeats 4000000 in
theorem Zz{w:World}{g o:Nat}{T:TypeId}{p q:List Value}{b:Bool}{ch:List UInt8}{m:Int}(h:Cb w g T(p ++([.bool b] ++(cellsOf ch ++([.int .i64 m] ++ q)))))(hp:p.length=o)(lc:ch.length=32)(hm:0≤m∧m≤4000000){tg:TypeId×Nat×Nat}(hG:Gl w tg):
  Calls Tryz.prog 46 #[.pointer(some⟨g,o,none⟩)] w fun e w'=>e= .returned(.agg(cellsOf(jM ch qd)).toArray)∧Cb w' g T(p ++([.bool b] ++(cellsOf(jM ch vG)++([.int .i64(m+1)] ++ q))))∧w.grownBy w'(some g):=by
 have ST:Hid(∀W,Ext w W→Calls Tryz.prog 80 #[.agg(cellsOf ch).toArray] W(Qk(jM ch qd)(jM ch chnS)W)):=fun W e=>jaU lc(hG.kept e hG.lt)
 have L0:=jR ch qd
 have L1:=jR ch vG
 generalize jM ch qd=k0 at *
 generalize jM ch vG=k1 at *
 have S0:(cellsOf k0).toArray.size=32:=by simp [cellsOf_len,L0]
 have S1:(cellsOf k1).toArray.size=32:=by simp [cellsOf_len,L1]
 have SC:(cellsOf ch).toArray.size=32:=by simp [cellsOf_len,lc]
 have O0:=ji k0
 have O1:=ji k1
 have hal:∀w,(zeroValue 23).run Tryz.prog w= .ok(.agg(cellsOf(List.replicate 32 0)).toArray)w:=fun w=>by rw [jU];exact j2 w
 have L_zk:(List.replicate 32(0:UInt8)).length=32:=rfl
 generalize List.replicate 32(0:UInt8)=zk at *
 have S_zk:(cellsOf zk).toArray.size=32:=by simp [ja,L_zk]
 have gl:=h.lt
 obtain⟨r,hr⟩:∃r,r=w.heap.size:=⟨_,rfl⟩
 have B0:Hid(Cb(w.alloc(.cells(cellsOf zk).toArray 23))r 23(cellsOf zk)∧Ext w(w.alloc(.cells(cellsOf zk).toArray 23))):=by rw [hr];exact⟨Cb.new _ _ _,(Ext.refl w).alloc _⟩
 obtain⟨q1,hq1⟩:∃x:List Value,x=cellsOf ch ++([.int .i64 m] ++ q):=⟨_,rfl⟩
 have H1:Hid(∀s,Cb s g T(p ++([.bool b] ++(cellsOf ch ++([.int .i64 m] ++ q))))→(∀j v,(cellsOf ch)[j]? =some v→s.cell?⟨g,o+1+j,none⟩=some v)∧s.cell?⟨g,o+33,none⟩=some(.int .i64 m)):=fun s k=>⟨by
  refine k.mid(p:=p ++ [.bool b])(q:= [.int .i64 m] ++ q)(by simp)(by simp [hp]),k.cell(by
  rw [show p ++([Value.bool b] ++(cellsOf ch ++([.int .i64 m] ++ q)))=(p ++([.bool b] ++ cellsOf ch))++([.int .i64 m] ++ q)by simp,List.getElem?_append_right(by simp [hp,ja,lc]),show o+33 - (p ++([Value.bool b] ++ cellsOf ch)).length=0 by simp [hp,ja,lc]]
  rfl)⟩
 have H2:Hid(∀s,Cb s g T(p ++([.bool b] ++(cellsOf ch ++([.int .i64 m] ++ q))))→s.there g(o+1)32∧Cb(s.setCells g(o+1)(cellsOf k1))g T(p ++([.bool b] ++(cellsOf k1 ++([.int .i64 m] ++ q))))):=fun s k=>⟨k.there(by simp [hp,ja,lc];omega),by
  have:=k.put(p:=p ++ [.bool b])(y:=cellsOf ch)(q:= [.int .i64 m] ++ q)(z:=cellsOf k1)(off:=o+1)(by simp)(by simp [hp])(by simp [ja,lc,L1])
  simpa using this⟩
 have H3:Hid(∀s,Cb s g T(p ++([.bool b] ++(cellsOf k1 ++([.int .i64 m] ++ q))))→s.cell?⟨g,o+33,none⟩=some(.int .i64 m)∧s.frozen?⟨g,o+33,none⟩=false∧Cb(s.setCell⟨g,o+33,none⟩(.int .i64(m+1)))g T(p ++([.bool b] ++(cellsOf k1 ++([.int .i64(m+1)] ++ q))))):=fun s k=>by
  have e:∀x:Int,p ++([Value.bool b] ++(cellsOf k1 ++([.int .i64 x] ++ q)))=(p ++([.bool b] ++ cellsOf k1))++([.int .i64 x] ++ q):=fun x=>by simp
  have l:(p ++([Value.bool b] ++ cellsOf k1)).length=o+33:=by simp [hp,ja,L1]
  refine⟨k.cell(by rw [e];exact zV l),k.frozen _,?_⟩
  have:=k.setCell(o:=o+33)(v:= .int .i64(m+1))
  rw [e,JY l,← e] at this
  exact this
 clear hq1 q1
 have hq:Hid(Cb w g T(p ++([.bool b] ++(cellsOf ch ++([.int .i64 m] ++ q))))):=h
 obtain⟨LL,hLL⟩:∃LL,LL=p ++([.bool b] ++(cellsOf ch ++([.int .i64 m] ++ q))):=⟨_,rfl⟩
 rw [← hLL] at hq H1 H2
 obtain⟨LM,hLM⟩:∃LM,LM=p ++([.bool b] ++(cellsOf k1 ++([.int .i64 m] ++ q))):=⟨_,rfl⟩
 rw [← hLM] at H2 H3
 obtain⟨LN,hLN⟩:∃LN,LN=p ++([.bool b] ++(cellsOf k1 ++([.int .i64(m+1)] ++ q))):=⟨_,rfl⟩
 rw [← hLN] at H3 ⊢
 clear hLL hLM hLN h hG
 have w1_:IntKind.i64.wrap(m+1)=m+1:=IntWalk.i64_in _(by omega)
 go_enter Tryz.func46,Tryz.ntmps46
 go_upto_region 1 with fail
 refine jg(fun W=>Cb W r 23(cellsOf zk)∧Ext w W)B0.out ?_
 rw [← hr]
 have wr_:w.heap.size≤r:=Nat.le_of_eq hr.symm
 clear B0
 replace hr:=hd hr
 rintro w0⟨k0_,x0⟩
 have P0:Hid(∀s,Ext w0 s→Cb s g T LL∧Cb s r 23(cellsOf zk)∧Ext w s):=fun s e=>⟨(Cb.ext(hq.out)(x0.trans e)),k0_.ext e,x0.trans e⟩
 have S0_:=hd(ST.out w0 x0)
 have c1:=hd(H1.out w0(P0.out w0(Ext.refl _)).1)
 have rl:=k0_.lt
 clear k0_ x0 ST hq
 go_wp2_with(first |((with_reducible refine jI(o:=⟨some 9,_,_,_,_,_⟩)(ty:=23)(g:=g)(off:=(o+1))(ys:=cellsOf ch)?_ rfl ?_ ?_ Tryz.underlying23 ?_ ?_ ?_);(·rfl);(·rfl);(·exact c1.out.1);(·rfl);(·rw [(ja _).trans lc];rfl);go_frame))
 refine S0_.out.mono ?_
 rintro e w1⟨rfl,x1⟩
 have a0:Hid(Cb((w1.alloc(.cells(cellsOf zk).toArray 23)).alloc(.cells(cellsOf zk).toArray 23))w1.heap.size 23(cellsOf zk)):=jQ _ _ _
 have a1:Hid(Cb((w1.alloc(.cells(cellsOf zk).toArray 23)).alloc(.cells(cellsOf zk).toArray 23))(w1.heap.size+1)23(cellsOf zk)):=jK _ _ _
 have Y:Hid(Cb((((w1.alloc(.cells(cellsOf zk).toArray 23)).alloc(.cells(cellsOf zk).toArray 23)).setRow w1.heap.size(cellsOf k0).toArray).setRow(w1.heap.size+1)(cellsOf k1).toArray)w1.heap.size 23(cellsOf k0)∧Cb((((w1.alloc(.cells(cellsOf zk).toArray 23)).alloc(.cells(cellsOf zk).toArray 23)).setRow w1.heap.size(cellsOf k0).toArray).setRow(w1.heap.size+1)(cellsOf k1).toArray)(w1.heap.size+1)23(cellsOf k1)∧Ext w1((((w1.alloc(.cells(cellsOf zk).toArray 23)).alloc(.cells(cellsOf zk).toArray 23)).setRow w1.heap.size(cellsOf k0).toArray).setRow(w1.heap.size+1)(cellsOf k1).toArray)):=
  ⟨(setRow_other _ _ _ _(by omega)).trans(setRow_heap _ _ _ _ _ _ a0.out),setRow_heap _ _ _ _ _ _((setRow_other _ _ _ _(by omega)).trans a1.out),below_setRow(below_setRow(((Ext.refl w1).alloc _).alloc _)(Nat.le_refl _)_)(by omega)_⟩
 clear S0_ c1
 go_upto_region 2 with(first
  |(refine wpList_store_row rfl 23 _ _ rfl w1.heap.size(cellsOf k0).toArray rfl rfl 23(cellsOf zk).toArray a0.out(by rw [S0];rfl)(by rw [S0,S_zk])O0 ?_;simp only [Act.put])
  |(refine wpList_store_row rfl 23 _ _ rfl(w1.heap.size+1)(cellsOf k1).toArray rfl rfl 23(cellsOf zk).toArray((setRow_other _ _ _ _(by omega)).trans a1.out)(by rw [S1];rfl)(by rw [S1,S_zk])O1 ?_;simp only [Act.put]))
 obtain⟨x,hx⟩:∃x,x=w1.heap.size:=⟨_,rfl⟩
 refine jg(fun W=>Cb W w1.heap.size 23(cellsOf k0)∧Cb W(w1.heap.size+1)23(cellsOf k1)∧Ext w1 W)Y.out ?_
 rw [← hx]
 have wx:w0.heap.size≤x:=by rw [hx];exact x1.size
 clear Y a0 a1
 replace hx:=hd hx
 rintro w2⟨j0,j1,x2⟩
 obtain⟨hq,kr,xw⟩ :=P0.out w2(x1.trans x2)
 obtain⟨th,hp1⟩ :=H2.out w2 hq
 have gx:g < x:=Nat.lt_of_lt_of_le gl(Nat.le_trans(Nat.le_trans wr_(Nat.le_of_lt rl))wx)
 have F2:Hid(Cb(w2.setCells g(o+1)(cellsOf k1))g T LM∧Cb(w2.setCells g(o+1)(cellsOf k1))x 23(cellsOf k0)∧Cb(w2.setCells g(o+1)(cellsOf k1))r 23(cellsOf zk)∧w.grownBy(w2.setCells g(o+1)(cellsOf k1))(some g)):=
  ⟨hp1,(ju.block x j0.lt(fun z=>by have:=Option.some.inj z;omega)).trans j0,(ju.block r kr.lt(fun z=>by have:=Option.some.inj z;omega)).trans kr,jt(jD xw)ju⟩
 replace j1:=hd j1
 replace th:=hd th
 clear H1 H2 P0 hq kr xw hp1 j0 x1 x2
 go_upto_region 3 with(first
  |((with_reducible refine js(o:=⟨some 14,_,_,_,_,_⟩)?_ 23 _ rfl(x+1)?_ 23(cellsOf k1).toArray(0,0)_ ?_ Tryz.underlying23 ?_ ?_ ?_);(·rfl);(·rfl);(·exact j1.out);(·rfl);(·rw [S1];rfl);go_frame)
  |((with_reducible refine wpList_store_mid(op:=⟨none, .store 23(.tmp 16)(.tmp 14),_,_,_,_⟩)?_ 23 _ _ rfl g(o+1)(cellsOf k1).toArray ?_ ?_ ?_ ?_ ?_ ?_);(·rfl);(·rfl);(·rfl);(·rw [S1];exact th.out);(·rw [S1];rfl);(·exact O1);go_frame))
 refine jg(fun W=>Cb W g T LM∧Cb W x 23(cellsOf k0)∧Cb W r 23(cellsOf zk)∧w.grownBy W(some g))F2.out ?_
 clear F2 j1 th
 rintro w3⟨hq,j0,kr,gr⟩
 obtain⟨c1,z1,hn⟩ :=H3.out w3 hq
 have F3:Hid(Cb(w3.setCell⟨g,o+33,none⟩(.int .i64(m+1)))g T LN∧Cb(w3.setCell⟨g,o+33,none⟩(.int .i64(m+1)))x 23(cellsOf k0)∧Cb(w3.setCell⟨g,o+33,none⟩(.int .i64(m+1)))r 23(cellsOf zk)∧w.grownBy(w3.setCell⟨g,o+33,none⟩(.int .i64(m+1)))(some g)):=
  ⟨hn,(jP.block x j0.lt(fun z=>by have:=Option.some.inj z;omega)).trans j0,(jP.block r kr.lt(fun z=>by have:=Option.some.inj z;omega)).trans kr,jt gr jP⟩
 clear H3 hq j0 kr gr hn
 go_upto_region 4 with fail
 refine jg(fun W=>Cb W g T LN∧Cb W x 23(cellsOf k0)∧Cb W r 23(cellsOf zk)∧w.grownBy W(some g))F3.out ?_
 clear F3 c1 z1
 rintro w4⟨hq,j0,kr,gr⟩
 have F4:Hid(Cb(w4.setRow r(cellsOf k0).toArray)g T LN∧w.grownBy(w4.setRow r(cellsOf k0).toArray)(some g)):=⟨(setRow_other _ _ _ _(by omega)).trans hq,JS gr(by omega)⟩
 replace j0:=hd j0
 replace kr:=hd kr
 clear hq gr
 go_wp2_with(first
  |((with_reducible refine js(o:=⟨some 24,_,_,_,_,_⟩)?_ 23 _ rfl x ?_ 23(cellsOf k0).toArray(0,0)_ ?_ Tryz.underlying23 ?_ ?_ ?_);(·rfl);(·rfl);(·exact j0.out);(·rfl);(·rw [S0];rfl);go_frame)
  |(refine wpList_store_row rfl 23 _ _ rfl r(cellsOf k0).toArray rfl rfl 23(cellsOf zk).toArray kr.out(by rw [S0];rfl)(by rw [S0,S_zk])O0 ?_;simp only [Act.put]))
 (try simp only [Exit.inBlock,Exit.then])
 refine bodyPost_ret(results_cell_row rfl _ _ r 23(cellsOf k0).toArray(0,0)_ rfl(setRow_heap _ _ _ _ _ _ kr.out)rfl rfl(by rw [S0];rfl))rfl ?_
 exact⟨rfl,F4.out⟩
end
section
open Go.ChangeShapes Go.WideShapes Go.ChangeAt Go.RowKit Go.Deep
set_option maxRecDepth 100000
def prC(a b c d:List Nat):List Value:=jb a ++(jb b ++(jb c ++ jb d))
def L8(a b c d:List Nat):Prop:=a.length=8∧b.length=8∧c.length=8∧d.length=8
theorem qT{a b c d:List Nat}(h:L8 a b c d):(prC a b c d).length=32:=by
 obtain⟨h1,h2,h3,h4⟩ :=h
 simp [prC,j4 h1,j4 h2,j4 h3,j4 h4]
theorem Z4(a b c d:List Nat):(prC a b c d).toArray.all(·.oneCell')=true:=by
 refine all_oneCell_toArray fun v hv=> ?_
 have:∀xs:List Nat,v∈jb xs→v.oneCell'=true:=fun xs h=>by
  have:=jo xs
  rw [Array.all_eq_true'] at this
  exact this v(by simpa using h)
 simp only [prC,List.mem_append] at hv
 rcases hv with h |h |h |h <;> exact this _ h
def Pr(w:World)(g:Nat)(a b c d:List Nat):Prop:=w.heap[g]? =some(.cells(prC a b c d).toArray 238(0,0))∧L8 a b c d
section
variable{w w':World}{g:Nat}{a b c d:List Nat}
theorem Pr.lt(h:Pr w g a b c d):g < w.heap.size:=jh h.1
theorem Pr.kept{B:Nat}(h:Pr w g a b c d)(he:Below B w w')(hB:g < B):Pr w' g a b c d:=⟨(he.block g hB).trans h.1,h.2⟩
theorem Pr.at0(h:Pr w g a b c d):∀j v,(jb a)[j]? =some v→w.cell?⟨g,0+j,none⟩=some v:=fun j v hv=>by
 rw [cell_of_row w g _ _ _ _ h.1,List.getElem?_toArray,prC,Nat.zero_add,List.getElem?_append_left(List.getElem?_eq_some_iff.1 hv).1,hv]
theorem Pr.at8(h:Pr w g a b c d):∀j v,(jb b)[j]? =some v→w.cell?⟨g,8+j,none⟩=some v:=fun j v hv=>by
 rw [cell_of_row w g _ _ _ _ h.1,List.getElem?_toArray,prC,List.getElem?_append_right(by rw [j4 h.2.1];omega),j4 h.2.1,Nat.add_sub_cancel_left,List.getElem?_append_left(List.getElem?_eq_some_iff.1 hv).1,hv]
theorem Pr.at16(h:Pr w g a b c d):∀j v,(jb c)[j]? =some v→w.cell?⟨g,16+j,none⟩=some v:=fun j v hv=>by
 rw [cell_of_row w g _ _ _ _ h.1,List.getElem?_toArray,prC,List.getElem?_append_right(by rw [j4 h.2.1];omega),j4 h.2.1,List.getElem?_append_right(by rw [j4 h.2.2.1];omega),j4 h.2.2.1,show 16+j - 8 - 8=j by omega,List.getElem?_append_left(List.getElem?_eq_some_iff.1 hv).1,hv]
theorem Pr.at24(h:Pr w g a b c d):∀j v,(jb d)[j]? =some v→w.cell?⟨g,24+j,none⟩=some v:=fun j v hv=>by
 rw [cell_of_row w g _ _ _ _ h.1,List.getElem?_toArray,prC,List.getElem?_append_right(by rw [j4 h.2.1];omega),j4 h.2.1,List.getElem?_append_right(by rw [j4 h.2.2.1];omega),j4 h.2.2.1,List.getElem?_append_right(by rw [j4 h.2.2.2.1];omega),j4 h.2.2.2.1,show 24+j - 8 - 8 - 8=j by omega,hv]
theorem je7(h:L8 a b c d){x:List Nat}(hx:x.length=8):splice(prC a b c d)0(jb x)=prC x b c d:=by
 unfold splice prC
 rw [List.take_zero,List.nil_append,j4 hx,Nat.zero_add,List.drop_left'(j4 h.1)]
theorem je8(h:L8 a b c d){x:List Nat}(hx:x.length=8):splice(prC a b c d)8(jb x)=prC a x c d:=by
 unfold splice prC
 rw [j4 hx,List.take_left'(j4 h.1),← List.append_assoc(jb a)(jb b),List.drop_left'(by simp [j4 h.1,j4 h.2.1])]
theorem jdU(h:L8 a b c d){x:List Nat}(hx:x.length=8):splice(prC a b c d)16(jb x)=prC a b x d:=by
 unfold splice prC
 rw [j4 hx,← List.append_assoc(jb a)(jb b),List.take_left'(by simp [j4 h.1,j4 h.2.1]),← List.append_assoc(jb a ++ jb b)(jb c),List.drop_left'(by simp [j4 h.1,j4 h.2.1,j4 h.2.2.1])]
 simp
theorem jdV(h:L8 a b c d){x:List Nat}(hx:x.length=8):splice(prC a b c d)24(jb x)=prC a b c x:=by
 unfold splice prC
 rw [j4 hx,← List.append_assoc(jb b)(jb c),← List.append_assoc(jb a),List.take_left'(by simp [j4 h.1,j4 h.2.1,j4 h.2.2.1]),List.drop_eq_nil_of_le(by simp [j4 h.1,j4 h.2.1,j4 h.2.2.1,wc8' h.2.2.2])]
 simp
theorem Pr.set0(h:Pr w g a b c d){x:List Nat}(hx:x.length=8):Pr(w.setCells g 0(jb x))g x b c d:=⟨by rw [← je7 h.2 hx];exact qH _ _ _ _ h.1(by rw [qT h.2,j4 hx];omega),hx,h.2.2⟩
theorem Pr.set8(h:Pr w g a b c d){x:List Nat}(hx:x.length=8):Pr(w.setCells g 8(jb x))g a x c d:=⟨by rw [← je8 h.2 hx];exact qH _ _ _ _ h.1(by rw [qT h.2,j4 hx];omega),h.2.1,hx,h.2.2.2⟩
theorem Pr.set16(h:Pr w g a b c d){x:List Nat}(hx:x.length=8):Pr(w.setCells g 16(jb x))g a b x d:=⟨by rw [← jdU h.2 hx];exact qH _ _ _ _ h.1(by rw [qT h.2,j4 hx];omega),h.2.1,h.2.2.1,hx,h.2.2.2.2⟩
theorem Pr.set24(h:Pr w g a b c d){x:List Nat}(hx:x.length=8):Pr(w.setCells g 24(jb x))g a b c x:=⟨by rw [← jdV h.2 hx];exact qH _ _ _ _ h.1(by rw [qT h.2,j4 hx];omega),h.2.1,h.2.2.1,h.2.2.2.1,hx⟩
theorem Pr.there{o:Nat}(h:Pr w g a b c d)(ho:o+8≤32):w.there g o 8:=Ja h.1(by rw [qT h.2];omega)
end
set_option maxHeartbeats 4000000 in
theorem jhq{g:Nat}{a b c d:List Nat}{w:World}(h:Pr w g a b c d):
  Calls Tryz.prog 139 #[.int .u8 1, .pointer(some⟨g,0,none⟩)] w fun e w'=>e= .returned(.tuple #[])∧w.grownBy w'(some g)∧Pr w' g b a d c:=by
 obtain⟨la,lb,lc,ld⟩ :=h.2
 have Sa:=jf la
 have Sb:=jf lb
 have Sc:=jf lc
 have Sd:=jf ld
 have Oa:=jo a
 have Ob':=jo b
 have Oc:=jo c
 have Od:=jo d
 have Ca:=j4 la
 have Cb:=j4 lb
 have Cc:=j4 lc
 have Cd:=j4 ld
 replace h:=hd h
 have h1:=hd(h.out.set0 lb)
 have h2:=hd(h1.out.set8 la)
 have g2:Hid(w.grownBy((w.setCells g 0(jb b)).setCells g 8(jb a))(some g)):=jt ju ju
 go_enter Tryz.func139,Tryz.ntmps139
 go_upto_region 2 with(first
  |(refine jI rfl(ys:=jb b)rfl rfl h.out.at8 rfl rfl(by rw [Cb];rfl)?_;go_frame)
  |(refine jI rfl(ys:=jb a)rfl rfl h.out.at0 rfl rfl(by rw [Ca];rfl)?_;go_frame)
  |(refine wpList_store_mid rfl 233 _ _ rfl g 0(jb b).toArray rfl rfl(by rw [Sb];exact h.out.there(by omega))(by rw [Sb];rfl)Ob' ?_;go_frame)
  |(refine wpList_store_mid rfl 233 _ _ rfl g 8(jb a).toArray rfl rfl(by rw [Sa];exact h1.out.there(by omega))(by rw [Sa];rfl)Oa ?_;go_frame))
 refine jg(fun W=>Pr W g b a c d∧w.grownBy W(some g))⟨h2.out,g2.out⟩?_
 clear h h1 h2 g2
 rintro w1⟨h,g1⟩
 replace h:=hd h
 replace g1:=hd g1
 have h1:=hd(h.out.set16 ld)
 have h2:=hd(h1.out.set24 lc)
 have g2:Hid(w.grownBy((w1.setCells g 16(jb d)).setCells g 24(jb c))(some g)):=jt g1.out(jt ju ju)
 go_wp2_with(first
  |(refine jI rfl(ys:=jb d)rfl rfl h.out.at24 rfl rfl(by rw [Cd];rfl)?_;go_frame)
  |(refine jI rfl(ys:=jb c)rfl rfl h.out.at16 rfl rfl(by rw [Cc];rfl)?_;go_frame)
  |(refine wpList_store_mid rfl 233 _ _ rfl g 16(jb d).toArray rfl rfl(by rw [Sd];exact h.out.there(by omega))(by rw [Sd];rfl)Od ?_;go_frame)
  |(refine wpList_store_mid rfl 233 _ _ rfl g 24(jb c).toArray rfl rfl(by rw [Sc];exact h1.out.there(by omega))(by rw [Sc];rfl)Oc ?_;go_frame))
 go_end0
 exact⟨rfl,g2.out,h2.out⟩
theorem jbx{x g:Nat}{a b c d:List Nat}{w:World}(hx:x=1)(h:Pr w g a b c d):
  Calls Tryz.prog 139 #[.int .u8(x:Int), .pointer(some⟨g,0,none⟩)] w fun e w'=>e= .returned(.tuple #[])∧w.grownBy w'(some g)∧Pr w' g b a d c:=by
 subst hx
 exact jhq h
set_option maxHeartbeats 1000000 in
theorem jby{x g:Nat}{w:World}(hx:x≠1):
  Calls Tryz.prog 139 #[.int .u8(x:Int), .pointer(some⟨g,0,none⟩)] w fun e w'=>e= .returned(.tuple #[])∧w'=w:=by
 have t:((x:Int) == 1)=false:=by simp;omega
 go_enter Tryz.func139,Tryz.ntmps139
 go_wp2_with fail
 go_end0
 exact⟨rfl,rfl⟩
end
end Go.Proofs.YtakpgbaijkhpmaaGreatDoor
