import Derived.Test.YtakpgbaijkhpmaaGreatDoorPkAG
import Derived.Deep.DeepCutAuto
import Derived.Test.YtakpgbaijkhpmaaGreatDoorPkAA
import Derived.Test.YtakpgbaijkhpmaaGreatDoorPkAB
import Derived.Test.YtakpgbaijkhpmaaGreatDoorPkAF
import Derived.Maps.AppendAt
import Derived.Deep.RegionHeld3
import Derived.OwnWalk
import Derived.Deep.DeepMust
import Derived.Lib.AppendStr
import Derived.Lib.AppendZerosOnto
namespace Go.Proofs.YtakpgbaijkhpmaaGreatDoor
section
open Go.ChangeShapes Go.WideShapes Go.ChangeAt Go.RowKit Go.Deep
theorem jce(w:World)(o1 o2 o3 o4:Obj):((((w.alloc o1).alloc o2).alloc o3).alloc o4).heap[w.heap.size]? =some o1:=by
 rw [Below.heap_alloc _ _ _(by rw [je,je,je];omega)]
 exact jF w o1 o2 o3
theorem jcf(w:World)(o1 o2 o3 o4:Obj):((((w.alloc o1).alloc o2).alloc o3).alloc o4).heap[w.heap.size+1+1]? =some o3:=by
 rw [Below.heap_alloc _ _ _(by rw [je,je,je];omega)]
 exact jB w o1 o2 o3
theorem jcg(w:World)(o1 o2 o3 o4:Obj):((((w.alloc o1).alloc o2).alloc o3).alloc o4).heap[w.heap.size+1+1+1]? =some o4:=by
 have:=jB(w.alloc o1)o2 o3 o4
 rwa [je] at this
def Cw(w wr:World)(hs:List Nat)(xs:List UInt8)(vs:List Nat):Prop:=
 Ext w wr∧Wr wr w.heap.size 218 hs∧wr.heap[w.heap.size+1]? =some(.cells(cellsOf xs).toArray 221(0,0))∧Wr wr(w.heap.size+1+1)218(List.replicate 8 0)∧Wr wr(w.heap.size+1+1+1)246 vs
theorem Cw.blk{w wr:World}{hs:List Nat}{xs:List UInt8}{vs:List Nat}(h:Cw w wr hs xs vs):wr.heap[w.heap.size+1]? =some(.cells(cellsOf xs).toArray 221(0,0)):=h.2.2.1
theorem Cw.setV{w wr:World}{hs:List Nat}{xs:List UInt8}{vs:List Nat}(h:Cw w wr hs xs vs)(k x:Nat):Cw w(wr.setCell⟨w.heap.size+1+1+1,k,none⟩(.int .u32(x:Int)))hs xs(vs.set k x):=by
 obtain⟨e,a,b,c,d⟩ :=h
 have hb:Below(w.heap.size+1+1+1)wr(wr.setCell⟨w.heap.size+1+1+1,k,none⟩(.int .u32(x:Int))):=Below.setCell(p:=⟨w.heap.size+1+1+1,k,none⟩)(Below.refl(w.heap.size+1+1+1)wr)(Nat.le_refl _)_
 exact⟨Below.trans e(hb.mono(by omega)),a.kept hb(by omega),(hb.block _(by omega)).trans b,c.kept hb(by omega),d.set⟩
theorem Cw.ext{w wr wr':World}{hs:List Nat}{xs:List UInt8}{vs:List Nat}(h:Cw w wr hs xs vs)(e:Ext wr wr'):Cw w wr' hs xs vs:=by
 obtain⟨e0,a,b,c,d⟩ :=h
 have hlt:w.heap.size+1 < wr.heap.size:=Nat.lt_trans(Nat.lt_succ_self _)c.lt
 exact⟨e0.trans e,a.kept e a.lt,(e.block _ hlt).trans b,c.kept e c.lt,d.kept e d.lt⟩
theorem jgV{hs is vs:List Nat}(h:vs.length=hs.length+is.length)(h1:∀j,j < hs.length→wd vs j=wd hs j)(h2:∀j,j < is.length→wd vs(hs.length+j)=wd is j):vs=hs ++ is:=by
 refine List.ext_getElem(by simp [h])fun j p q=> ?_
 by_cases hj:j < hs.length
 ·have:=h1 j hj
  simp only [wd,List.getD,List.getElem?_eq_getElem p,List.getElem?_eq_getElem hj,Option.getD_some] at this
  rw [List.getElem_append_left hj,this]
 ·have h3:j - hs.length < is.length:=by omega
  have:=h2(j - hs.length)h3
  rw [show hs.length+(j - hs.length)=j by omega] at this
  simp only [wd,List.getD,List.getElem?_eq_getElem p,List.getElem?_eq_getElem h3,Option.getD_some] at this
  rw [List.getElem_append_right(by omega),this]
def vX(hs:List Nat)(t:Nat)(last:Bool):List Nat:=
 let v0:=hs ++ qI
 let v1:=v0.set 12(wd v0 12 ^^^ t % 4294967296)
 let v2:=v1.set 13(wd v0 13 ^^^ t / 4294967296)
 bif last then v2.set 14(4294967295 ^^^ wd v0 14)else v2
def pm(k j:Nat):Nat:=(jdw.getD k []).getD j 0
def jbm(ms:List Nat)(vs:List Nat)(k:Nat):List Nat:=
 let x:=fun j=>wd ms(pm k j)
 qZ(qZ(qZ(qZ(qZ(qZ(qZ(qZ vs 0 4 8 12(x 0)(x 1))1 5 9 13(x 2)(x 3))2 6 10 14(x 4)(x 5))3 7 11 15(x 6)(x 7))0 5 10 15(x 8)(x 9))1 6 11 12(x 10)(x 11))2 7 8 13(x 12)(x 13))3 4 9 14(x 14)(x 15)
def vF(ms:List Nat)(vs:List Nat)(k:Nat):List Nat:=(List.range k).foldl(jbm ms)vs
theorem Yc(ms vs:List Nat)(k:Nat):roundsV ms vs(k+1)=jbm ms(vF ms vs k)k:=by
 simp [vF,List.range_succ]
def ZW(hs vs:List Nat):List Nat:=(List.range 8).map fun j=>wd hs j ^^^(wd vs j ^^^ wd vs(j+8))
theorem jho{hs ys V:List Nat}(hl:ys.length=8)(h:∀j,j < 8→wd ys j=wd hs j ^^^(wd V j ^^^ wd V(j+8))):ZW hs V=ys:=by
 refine List.ext_getElem(by simp [ZW,hl])fun j h1 h2=> ?_
 have:=h j(by omega)
 simp only [ZW,List.getElem_map,List.getElem_range]
 rw [← this]
 simp [wd,List.getD,h2]
def ve(hs:List Nat)(xs:List UInt8)(t:Nat)(last:Bool):List Nat:=ZW hs(vF(qY xs 16)(vX hs t last)10)
theorem yg(hs:List Nat)(xs:List UInt8)(t:Nat)(last:Bool):(ve hs xs t last).length=8:=by simp [ve,ZW]
theorem jaT{hs:List Nat}{t:Nat}{last:Bool}(h:hs.length=8):(vX hs t last).length=16:=by
 unfold vX;cases last <;> simp [h,qI]
theorem jA(k j:Nat):pm k j < 16:=by
 by_cases hk:k < 10
 ·by_cases hj:j < 16
  ·have:∀k,k < 10→∀j,j < 16→pm k j < 16:=by decide
   exact this k hk j hj
  ·unfold pm
   have:∀k,k < 10→(jdw.getD k []).length=16:=by decide
   have h:=this k hk
   rw [List.getD_eq_getElem?_getD,List.getElem?_eq_none(by omega)];decide
 ·unfold pm
  rw [show jdw.getD k []= [] by rw [List.getD_eq_getElem?_getD,List.getElem?_eq_none(by simp [jdw];omega)];rfl];simp
theorem jiu(ms vs:List Nat)(k:Nat):(jbm ms vs k).length=vs.length:=by simp [jbm,vC]
theorem jg3{ms v0:List Nat}(h:v0.length=16):∀k,(vF ms v0 k).length=16
 |0=>h
 |k+1=>by rw [Yc,jiu];exact jg3 h k
def Jz(k:Nat):Array Value:=((List.range 16).map fun j=>Value.int .u8(pm k j:Int)).toArray
theorem jgF(k:Nat):(Jz k).size=16:=by simp [Jz]
theorem jit(k:Nat):(Jz k).all(·.oneCell')=true:=by
 rw [Array.all_eq_true_iff_forall_mem]
 intro v hv
 obtain⟨j,_,rfl⟩ :=List.mem_map.1(List.mem_toArray.1 hv)
 rfl
theorem jjm(w:World):(Instr.index 249(.agg zM)(.int .i64((0:Nat):Int))).run Tryz.prog w= .ok(.agg(Jz 0))w:=by kernel_rfl
theorem jjn(w:World):(Instr.index 249(.agg zM)(.int .i64((1:Nat):Int))).run Tryz.prog w= .ok(.agg(Jz 1))w:=by kernel_rfl
theorem jjo(w:World):(Instr.index 249(.agg zM)(.int .i64((2:Nat):Int))).run Tryz.prog w= .ok(.agg(Jz 2))w:=by kernel_rfl
theorem jjp(w:World):(Instr.index 249(.agg zM)(.int .i64((3:Nat):Int))).run Tryz.prog w= .ok(.agg(Jz 3))w:=by kernel_rfl
theorem jjq(w:World):(Instr.index 249(.agg zM)(.int .i64((4:Nat):Int))).run Tryz.prog w= .ok(.agg(Jz 4))w:=by kernel_rfl
theorem jjr(w:World):(Instr.index 249(.agg zM)(.int .i64((5:Nat):Int))).run Tryz.prog w= .ok(.agg(Jz 5))w:=by kernel_rfl
theorem jjs(w:World):(Instr.index 249(.agg zM)(.int .i64((6:Nat):Int))).run Tryz.prog w= .ok(.agg(Jz 6))w:=by kernel_rfl
theorem jjt(w:World):(Instr.index 249(.agg zM)(.int .i64((7:Nat):Int))).run Tryz.prog w= .ok(.agg(Jz 7))w:=by kernel_rfl
theorem jju(w:World):(Instr.index 249(.agg zM)(.int .i64((8:Nat):Int))).run Tryz.prog w= .ok(.agg(Jz 8))w:=by kernel_rfl
theorem jjv(w:World):(Instr.index 249(.agg zM)(.int .i64((9:Nat):Int))).run Tryz.prog w= .ok(.agg(Jz 9))w:=by kernel_rfl
theorem jeQ{k:Nat}(hk:k < 10)(w:World):(Instr.index 249(.agg zM)(.int .i64(k:Int))).run Tryz.prog w= .ok(.agg(Jz k))w:=by
 have h:k=0∨k=1∨k=2∨k=3∨k=4∨k=5∨k=6∨k=7∨k=8∨k=9:=by omega
 rcases h with rfl |rfl |rfl |rfl |rfl |rfl |rfl |rfl |rfl |rfl
 ·exact jjm w
 ·exact jjn w
 ·exact jjo w
 ·exact jjp w
 ·exact jjq w
 ·exact jjr w
 ·exact jjs w
 ·exact jjt w
 ·exact jju w
 ·exact jjv w
def Sr(w:World)(gs k:Nat):Prop:=w.heap[gs]? =some(.cells(Jz k)248(0,0))
theorem Sr.cell{w:World}{gs k j:Nat}(h:Sr w gs k)(hj:j < 16):w.cell?⟨gs,j,none⟩=some(.int .u8(pm k j:Int)):=by
 rw [cell_of_row w gs j _ 248(0,0)h]
 simp [Jz,hj]
theorem Sr.grow{w w':World}{gs k g:Nat}(h:Sr w gs k)(e:w.grownBy w'(some g))(hg:gs≠g):Sr w' gs k:=
 (e.block gs(jh h)(fun q=>by injection q with q;exact hg q)).trans h
def Rv(w wr:World)(hs:List Nat)(gm:Nat)(ms vs:List Nat):Prop:=
 Ext w wr∧Wr wr w.heap.size 218 hs∧Wr wr(w.heap.size+1+1)218(List.replicate 8 0)∧Arr wr(w.heap.size+1+1+1)vs∧Wr wr gm 246 ms∧w.heap.size+1+1+1 < gm
section
variable{w wr wr':World}{hs ms vs vs':List Nat}{gm:Nat}
theorem Rv.arr(h:Rv w wr hs gm ms vs):Arr wr(w.heap.size+1+1+1)vs:=h.2.2.2.1
theorem Rv.ext(h:Rv w wr hs gm ms vs)(e:Ext wr wr'):Rv w wr' hs gm ms vs:=by
 obtain⟨e0,h1,h2,h3,h4,h5⟩ :=h
 exact⟨e0.trans e,h1.kept e h1.lt,h2.kept e h2.lt,h3.ext e,h4.kept e h4.lt,h5⟩
theorem Rv.setH(h:Rv w wr hs gm ms vs)(k x:Nat):Rv w(wr.setCell⟨w.heap.size,k,none⟩(.int .u32(x:Int)))(hs.set k x)gm ms vs:=by
 obtain⟨e0,h1,h2,h3,h4,h5⟩ :=h
 have bl:∀i,i≠w.heap.size→(wr.setCell⟨w.heap.size,k,none⟩(.int .u32(x:Int))).heap[i]? =wr.heap[i]?:=fun i hi=>Below.heap_setCell _ _ _ _ hi
 refine⟨e0.setCell(Nat.le_refl _)_,h1.set,(bl _(by omega)).trans h2,⟨by simpa [World.setCell] using h3.1,fun i hi=> ?_⟩,(bl _(by omega)).trans h4,h5⟩
 obtain⟨a,b,c⟩ :=h3.2 i hi
 refine⟨?_,?_,c⟩
 ·rw [World.cell?_setCell_other _ _ _ _(fun q=>by injection q with q1 _ _;omega)];exact a
 ·rw [Jo];exact b
theorem Rv.mcell(h:Rv w wr hs gm ms vs){i:Nat}(hi:i < 16)(hm:ms.length=16):wr.cell?⟨gm,i,none⟩=some(.int .u32(wd ms i:Int)):=h.2.2.2.2.1.cell(by omega)
theorem Rv.mgrow(h:Rv w wr hs gm ms vs)(e:wr.grownBy wr'(some(w.heap.size+1+1+1))):Wr wr' gm 246 ms:=(e.block gm h.2.2.2.2.1.lt(fun q=>by injection q with q;have:=h.2.2.2.2.2;omega)).trans h.2.2.2.2.1
theorem Rv.grow(h:Rv w wr hs gm ms vs)(e:wr.grownBy wr'(some(w.heap.size+1+1+1)))(a:Arr wr'(w.heap.size+1+1+1)vs'):Rv w wr' hs gm ms vs':=by
 obtain⟨e0,h1,h2,h3,h4,h5⟩ :=h
 have bl:∀i o,wr.heap[i]? =some o→i≠w.heap.size+1+1+1→wr'.heap[i]? =some o:=fun i o hi hne=>(e.block i(jh hi)(fun q=>by injection q with q;exact hne q)).trans hi
 refine⟨Below.trans e0⟨e.os,e.tape,e.output,e.size,fun i hi=>e.block i(Nat.lt_of_lt_of_le hi e0.size)(fun q=>by injection q with q;omega)⟩,bl _ _ h1(by omega),bl _ _ h2(by omega),a,bl _ _ h4(by omega),h5⟩
end
set_option maxRecDepth 100000 in
set_option maxHeartbeats 4000000 in
theorem Qm{hs:List Nat}{xs:List UInt8}{t:Nat}{last:Bool}{w:World}(hl:hs.length=8)(hx:xs.length=64)(ht:t < 18446744073709551616)(hb:∀j,j < 8→wd hs j < 4294967296){tg:TypeId×Nat×Nat}(hG:Gl w tg):
  Calls Tryz.prog 124 #[.agg(jb hs).toArray, .agg(cellsOf xs).toArray, .int .u64(t:Int), .bool last] w fun e w'=>e= .returned(.agg(jb(ve hs xs t last)).toArray)∧Ext w w':=by
 go_enter Tryz.func124,Tryz.ntmps124
 go_wp2_with fail
 refine jg(fun wr=>Cw w wr hs xs(List.replicate 16 0))⟨((((Ext.refl _).alloc _).alloc _).alloc _).alloc _,jce _ _ _ _ _,(Below.heap_alloc _ _ _(by rw [je,je,je];omega)).trans(jH _ _ _ _),jcf _ _ _ _ _,jcg _ _ _ _ _⟩?_
 rintro w0⟨e0,a0,b0,c0,d0⟩
 have HG:=hd(fun(wr:World)(e:Ext w wr) =>hG.kept e hG.lt)
 clear hG
 obtain⟨B,hB⟩:∃B,B=w.heap.size+1+1+1:=⟨_,rfl⟩
 have HD:=hd d0
 have HA:=hd a0
 clear d0 a0
 refine qgB B [0,1,2] [2] ?_
 repeat((first |refine qR0 ?_ |refine qS ?_);go_frame)
 refine qD fun K hK=> ?_
 go_simp
 refine jfi(us:=List.replicate 16 0)(vs:=hs)rfl(HD.out.kept(Below.refl _ _).drew(Nat.lt_succ_self _))(HA.out.kept(Below.refl _ _).drew(Nat.lt_succ_self _))hl(by omega)(by simp)?_
 intro W1 h3 h4
 go_simp
 refine hK.out _ _(h4.out B(by omega))?_
 clear hK K
 refine jp ?_
 have e2:Below B w0 W1:=Below.trans((Below.refl B w0).drew)(h4.out B(by omega))
 clear h4
 go_wp2_with fail
 go_loopw [18](fun i wr=>∃(k:Nat)(vs:List Nat),k≤8∧i= .int .i64 k∧vs.length=16∧(∀j,j < 8→wd vs j=wd hs j)∧(∀j,j < k→wd vs(8+j)=wd qI j)∧Cw w wr hs xs vs)(fun i _=>8 - (intOf i).toNat)
 case atStart =>
  refine⟨0,splice(List.replicate 16 0)0 hs,Nat.zero_le _,rfl,by simp [splice];omega,fun j hj=> ?_,fun j hj=>absurd hj(by omega),Below.trans e0(e2.mono(by omega)),HA.out.kept e2(by omega),(e2.block _(by omega)).trans b0,c0.kept e2(by omega),h3.out⟩
  simp [wd,splice,List.getD,List.getElem?_append,show j < hs.length by omega]
 case round =>
  obtain⟨k,vs,hk,rfl,hvl,hv1,hv2,e3,a3,b3,c3,d3⟩ :=hrel
  clear HD HA h3 e2 b0 c0 e0
  by_cases hlt:k < 8
  ·have gg:=(HG.out _ e3).cell(i:=k)hlt
   have gv:=d3.cell(i:=8+k)(by omega)
   have gf:=d3.frozen(8+k)
   have ik:(k:Int) < 8:=by omega
   have jk:(8:Int)+(k:Int) < 16:=by omega
   go_wp2_with fail
   refine⟨⟨k+1,vs.set(8+k)(wd qI k),by omega,by go_num,by rw [List.length_set];exact hvl,fun j hj=> ?_,fun j hj=> ?_,Cw.setV⟨e3,a3,b3,c3,d3⟩_ _⟩,by simp [intOf];omega⟩
   ·rw [j8(by omega),if_neg(by omega)];exact hv1 j hj
   ·rw [j8(by omega)]
    by_cases q:j=k
    ·rw [if_pos(by omega),q]
    ·rw [if_neg(by omega)];exact hv2 j(by omega)
  ·obtain rfl:k=8:=by omega
   rw [show((8:Nat):Int)=8 from rfl]
   have hvs:=hd(jgV(hs:=hs)(is:=qI)(vs:=vs)(by rw [hvl,hl];rfl)(fun j hj=>hv1 j(by omega))(fun j hj=>by rw [hl];exact hv2 j hj))
   have l12:wd vs 12 < 4294967296:=by rw [hv2 4(by omega)];decide
   have l13:wd vs 13 < 4294967296:=by rw [hv2 5(by omega)];decide
   have l14:wd vs 14 < 4294967296:=by rw [hv2 6(by omega)];decide
   have x12:bits .xor .u32(wd vs 12:Int)((t:Int)% 4294967296)=((wd vs 12 ^^^ t % 4294967296:Nat):Int):=by
    rw [show(t:Int)% 4294967296=((t % 4294967296:Nat):Int)by omega]
    exact u32_xor_nat _ _ l12(Nat.mod_lt _(by decide))
   have x13:bits .xor .u32(wd vs 13:Int)((t:Int) / 4294967296)=((wd vs 13 ^^^ t / 4294967296:Nat):Int):=by
    rw [show(t:Int) / 4294967296=((t / 4294967296:Nat):Int)by omega]
    exact u32_xor_nat _ _ l13(by omega)
   have x14:bits .xor .u32 IntKind.u32.max(wd vs 14:Int)=((4294967295 ^^^ wd vs 14:Nat):Int):=u32_xor_nat 4294967295 _(by decide)l14
   have CW:Cw w wr hs xs vs:=⟨e3,a3,b3,c3,d3⟩
   have hvb:Hid(∀j,j < 16→wd vs j < 4294967296):=fun j hj=>by
    by_cases q:j < 8
    ·rw [hv1 j q];exact hb j q
    ·have h9:=hv2(j - 8)(by omega)
     rw [show 8+(j - 8)=j by omega] at h9
     rw [h9]
     have:∀j,j < 8→wd qI j < 4294967296:=by decide
     exact this _(by omega)
   clear hv1 hv2
   have c12:=d3.cell(i:=12)(by omega)
   have c13:=d3.cell(i:=13)(by omega)
   have c14:=d3.cell(i:=14)(by omega)
   have f12:=d3.frozen 12
   have f13:=d3.frozen 13
   have f14:=d3.frozen 14
   go_upto_if 41 with(fail)
   go_cut [41](fun _ wx=>∃v0:List Nat,Cw w wx hs xs v0∧v0=vX hs t last∧∀j,j < 16→wd v0 j < 4294967296)
   case first =>
    have hS:∀last,vX hs t last=bif last then((vs.set 12(wd vs 12 ^^^ t % 4294967296)).set 13(wd vs 13 ^^^ t / 4294967296)).set 14(4294967295 ^^^ wd vs 14)else(vs.set 12(wd vs 12 ^^^ t % 4294967296)).set 13(wd vs 13 ^^^ t / 4294967296):=fun last=>by rw [hvs.out];rfl
    replace hS:=hd hS
    have hbd:Hid(∀last,∀j,j < 16→wd(vX hs t last)j < 4294967296):=fun last j hj=>by
     have b12:wd vs 12 ^^^ t % 4294967296 < 4294967296:=jL l12(Nat.mod_lt _(by decide))
     have b13:wd vs 13 ^^^ t / 4294967296 < 4294967296:=jL l13(by omega)
     have b14:4294967295 ^^^ wd vs 14 < 4294967296:=jL(by decide)l14
     have bj:=hvb.out j hj
     rw [hS.out]
     cases last
     ·simp only [cond_false]
      rw [j8(by simp;omega),j8(by omega)]
      split
      ·exact b13
      ·split <;> assumption
     ·simp only [cond_true]
      rw [j8(by simp;omega),j8(by simp;omega),j8(by omega)]
      split
      ·exact b14
      ·split
       ·exact b13
       ·split <;> assumption
    cases last
    ·go_wp2_with fail
     go_meet
     exact⟨_,(CW.setV 12 _).setV 13 _,(hS.out false).symm,by have:=hbd.out false;rw [hS.out false] at this;exact this⟩
    ·go_wp2_with fail
     go_meet
     exact⟨_,((CW.setV 12 _).setV 13 _).setV 14 _,(hS.out true).symm,by have:=hbd.out true;rw [hS.out true] at this;exact this⟩
   case rest =>
    obtain⟨v0,CW0,hv0,hv0b⟩ :=hcut
    replace hv0:=hd hv0
    have HS:(cellsOf xs).toArray.size=64:=by simp [ja,hx]
    have v0l:v0.length=16:=by rw [hv0.out];exact jaT hl
    clear c12 c13 c14 f12 f13 f14 x12 x13 x14 CW l12 l13 l14 hvb hvs e3 a3 b3 c3 d3 hvl
    go_wp2_with(refine wpList_load_row rfl 221 _ rfl(w.heap.size+1)rfl 221(cellsOf xs).toArray(0,0)_(by with_reducible exact CW0.blk)rfl rfl(by rw [HS];rfl)?_)
    refine(jbp hx).mono ?_
    rintro e w1⟨rfl,e1⟩
    have CW1:=CW0.ext e1
    have HM:(qY xs 16).length=16:=by simp [qY]
    have HMb:Hid(∀j,j < 16→wd(qY xs 16)j < 4294967296):=fun j hj=>by
     have:wd(qY xs 16)j=zy xs j:=by simp [wd,qY,List.getD,hj]
     rw [this];exact J0 _ _
    generalize hM:qY xs 16=ms at HM HMb ⊢
    replace hM:=hd hM
    have HMs:=jf HM
    replace HM:=hd HM
    go_wp2_with(refine wpList_store_row rfl 246 _ _ rfl w1.heap.size(jb ms).toArray rfl rfl 246 _(by with_reducible exact heap_alloc_new _ _)(by rw [HMs];rfl)(by rw [HMs];rfl)(jo ms)?_)
    refine jeP.mono ?_
    rintro e w2⟨rfl,e2⟩
    have CW2:=CW1.ext(Ext.trans(below_setRow((Ext.refl w1).alloc _)(Nat.le_refl w1.heap.size)(jb ms).toArray)e2)
    have WM:Wr w2 w1.heap.size 246 ms:=Wr.kept(setRow_heap _ _ _ _ _ _(heap_alloc_new _ _))e2(by simp [World.setRow,je])
    have RV0:Rv w w2 hs w1.heap.size ms v0:=⟨CW2.1,CW2.2.1,CW2.2.2.2.1,CW2.2.2.2.2.arr(fun i hi=>hv0b i(by omega)),WM,CW1.2.2.2.2.lt⟩
    clear e2 e1 CW2 WM CW1 CW0 HS
    replace hv0b:=hd hv0b
    replace RV0:=hd RV0
    obtain⟨gm,hgm⟩:∃gm,gm=w1.heap.size:=⟨_,rfl⟩
    rw [← hgm] at RV0
    replace hgm:=hd hgm
    go_wp2_with fail
    rw [← hgm.out]
    go_loopw [49](fun i wr=>∃k:Nat,k≤10∧i= .int .i64 k∧Rv w wr hs gm ms(vF ms v0 k))(fun i _=>10 - (intOf i).toNat)
    case atStart=>exact⟨0,Nat.zero_le _,rfl,RV0.out⟩
    case round =>
     obtain⟨k,hk,rfl,RV⟩ :=hrel
     have VL:(vF ms v0 k).length=16:=jg3 v0l k
     by_cases hlt:k < 10
     ·have hix:=jeQ hlt
      have HR:=jgF k
      have HRo:=jit k
      have HSUC:=hd(Yc ms v0 k)
      generalize hvk:vF ms v0 k=vk at RV VL HSUC
      clear hvk
      replace RV:=hd RV
      generalize hRC:Jz k=C at hix HR HRo
      replace hRC:=hd hRC
      go_wp2_with(refine wpList_store_row rfl 248 _ _ rfl wr.heap.size C rfl rfl 248 _(by with_reducible exact heap_alloc_new _ _)(by rw [HR];rfl)(by rw [HR];rfl)HRo ?_)
      obtain⟨gs,hgs0⟩:∃gs,gs=wr.heap.size:=⟨_,rfl⟩
      have hgs:gs≠w.heap.size+1+1+1:=by
       have:=RV.out.2.2.2.2.1.lt
       have:=RV.out.2.2.2.2.2
       omega
      rw [← hgs0]
      refine jg(fun W'=>Rv w W' hs gm ms vk∧Sr W' gs k)⟨RV.out.ext(below_setRow((Ext.refl wr).alloc _)(by omega)C),?_⟩?_
      ·have h9:=setRow_heap(wr.alloc(Obj.cells(Array.replicate 16(Value.int .u8 0))248))wr.heap.size _ C 248 _(heap_alloc_new _ _)
       rw [← hgs0,← hRC.out] at h9
       rw [← hRC.out]
       exact h9
      clear RV hRC hgs0 hix HR HRo
      rintro W⟨RV,SR⟩
      replace hgs:=hd hgs
      have CP:=SR.cell(j:=0)(by omega)
      have CQ:=SR.cell(j:=1)(by omega)
      have CM:=RV.mcell(jA k 0)HM.out
      have CN:=RV.mcell(jA k 1)HM.out
      have lp:(pm k 0:Int) < 16:=by have:=jA k 0;omega
      have lq:(pm k 1:Int) < 16:=by have:=jA k 1;omega
      have KEEP:Hid(∀w',W.grownBy w'(some(w.heap.size+1+1+1))→w'.cell?⟨gs,0,none⟩=some(.int .u8(pm k 0:Int))∧w'.cell?⟨gs,1,none⟩=some(.int .u8(pm k 1:Int))∧w'.cell?⟨gm,pm k 0,none⟩=some(.int .u32(wd ms(pm k 0):Int))∧w'.cell?⟨gm,pm k 1,none⟩=some(.int .u32(wd ms(pm k 1):Int))):=fun w' e=>⟨(SR.grow e hgs.out).cell(by omega),(SR.grow e hgs.out).cell(by omega),(RV.mgrow e).cell(by rw [HM.out];exact jA _ _),(RV.mgrow e).cell(by rw [HM.out];exact jA _ _)⟩
      clear CP CQ CM CN
      refine qgW((w.heap.size+1+1+1)) [0,1,2,3,4,5,6,7,8] [8] ?_
      repeat((first |refine qR _(fun w' e=>KEEP.out w'(jj(jV(Ext.refl _).drew _)e))?_ |refine qS ?_);go_frame)
      refine qD fun K hK=> ?_
      go_simp
      refine(yS(RV.arr.ext(Ext.refl _).drew)VL(a:=0)(b:=4)(c:=8)(d:=12)(by omega)(by omega)(by omega)(by omega)(HMb.out _(jA _ _))(HMb.out _(jA _ _))).mono ?_
      rintro e w2⟨rfl,A2,G2⟩
      refine hK.out _ _ G2 ?_
      clear hK K
      try go_frame
      refine jp ?_
      go_wp2_with fail
      refine jg(fun W'=>Rv w W' hs gm ms(qZ vk 0 4 8 12(wd ms(pm k 0))(wd ms(pm k 1)))∧Sr W' gs k)⟨RV.grow(jj(jV(Ext.refl _).drew _)G2)A2,SR.grow(jj(jV(Ext.refl _).drew _)G2)hgs.out⟩?_
      clear A2 G2 KEEP RV SR
      clear W
      rintro W⟨RV,SR⟩
      have VL':=(vC vk 0 4 8 12(wd ms(pm k 0))(wd ms(pm k 1))).trans VL
      clear VL
      generalize HV0:qZ vk 0 4 8 12(wd ms(pm k 0))(wd ms(pm k 1))=u0 at RV VL'
      replace HV0:=hd HV0
      have VL:=VL'
      clear VL' lp lq
      have CP:=SR.cell(j:=2)(by omega)
      have CQ:=SR.cell(j:=3)(by omega)
      have CM:=RV.mcell(jA k 2)HM.out
      have CN:=RV.mcell(jA k 3)HM.out
      have lp:(pm k 2:Int) < 16:=by have:=jA k 2;omega
      have lq:(pm k 3:Int) < 16:=by have:=jA k 3;omega
      have KEEP:Hid(∀w',W.grownBy w'(some(w.heap.size+1+1+1))→w'.cell?⟨gs,2,none⟩=some(.int .u8(pm k 2:Int))∧w'.cell?⟨gs,3,none⟩=some(.int .u8(pm k 3:Int))∧w'.cell?⟨gm,pm k 2,none⟩=some(.int .u32(wd ms(pm k 2):Int))∧w'.cell?⟨gm,pm k 3,none⟩=some(.int .u32(wd ms(pm k 3):Int))):=fun w' e=>⟨(SR.grow e hgs.out).cell(by omega),(SR.grow e hgs.out).cell(by omega),(RV.mgrow e).cell(by rw [HM.out];exact jA _ _),(RV.mgrow e).cell(by rw [HM.out];exact jA _ _)⟩
      clear CP CQ CM CN
      refine qgW((w.heap.size+1+1+1)) [0,1,2,3,4,5,6,7,8] [8] ?_
      repeat((first |refine qR _(fun w' e=>KEEP.out w'(jj(jV(Ext.refl _).drew _)e))?_ |refine qS ?_);go_frame)
      refine qD fun K hK=> ?_
      go_simp
      refine(yS(RV.arr.ext(Ext.refl _).drew)VL(a:=1)(b:=5)(c:=9)(d:=13)(by omega)(by omega)(by omega)(by omega)(HMb.out _(jA _ _))(HMb.out _(jA _ _))).mono ?_
      rintro e w2⟨rfl,A2,G2⟩
      refine hK.out _ _ G2 ?_
      clear hK K
      try go_frame
      refine jp ?_
      go_wp2_with fail
      refine jg(fun W'=>Rv w W' hs gm ms(qZ u0 1 5 9 13(wd ms(pm k 2))(wd ms(pm k 3)))∧Sr W' gs k)⟨RV.grow(jj(jV(Ext.refl _).drew _)G2)A2,SR.grow(jj(jV(Ext.refl _).drew _)G2)hgs.out⟩?_
      clear A2 G2 KEEP RV SR
      clear W
      rintro W⟨RV,SR⟩
      have VL':=(vC u0 1 5 9 13(wd ms(pm k 2))(wd ms(pm k 3))).trans VL
      clear VL
      generalize HV1:qZ u0 1 5 9 13(wd ms(pm k 2))(wd ms(pm k 3))=u1 at RV VL'
      replace HV1:=hd HV1
      have VL:=VL'
      clear VL' lp lq
      have CP:=SR.cell(j:=4)(by omega)
      have CQ:=SR.cell(j:=5)(by omega)
      have CM:=RV.mcell(jA k 4)HM.out
      have CN:=RV.mcell(jA k 5)HM.out
      have lp:(pm k 4:Int) < 16:=by have:=jA k 4;omega
      have lq:(pm k 5:Int) < 16:=by have:=jA k 5;omega
      have KEEP:Hid(∀w',W.grownBy w'(some(w.heap.size+1+1+1))→w'.cell?⟨gs,4,none⟩=some(.int .u8(pm k 4:Int))∧w'.cell?⟨gs,5,none⟩=some(.int .u8(pm k 5:Int))∧w'.cell?⟨gm,pm k 4,none⟩=some(.int .u32(wd ms(pm k 4):Int))∧w'.cell?⟨gm,pm k 5,none⟩=some(.int .u32(wd ms(pm k 5):Int))):=fun w' e=>⟨(SR.grow e hgs.out).cell(by omega),(SR.grow e hgs.out).cell(by omega),(RV.mgrow e).cell(by rw [HM.out];exact jA _ _),(RV.mgrow e).cell(by rw [HM.out];exact jA _ _)⟩
      clear CP CQ CM CN
      refine qgW((w.heap.size+1+1+1)) [0,1,2,3,4,5,6,7,8] [8] ?_
      repeat((first |refine qR _(fun w' e=>KEEP.out w'(jj(jV(Ext.refl _).drew _)e))?_ |refine qS ?_);go_frame)
      refine qD fun K hK=> ?_
      go_simp
      refine(yS(RV.arr.ext(Ext.refl _).drew)VL(a:=2)(b:=6)(c:=10)(d:=14)(by omega)(by omega)(by omega)(by omega)(HMb.out _(jA _ _))(HMb.out _(jA _ _))).mono ?_
      rintro e w2⟨rfl,A2,G2⟩
      refine hK.out _ _ G2 ?_
      clear hK K
      try go_frame
      refine jp ?_
      go_wp2_with fail
      refine jg(fun W'=>Rv w W' hs gm ms(qZ u1 2 6 10 14(wd ms(pm k 4))(wd ms(pm k 5)))∧Sr W' gs k)⟨RV.grow(jj(jV(Ext.refl _).drew _)G2)A2,SR.grow(jj(jV(Ext.refl _).drew _)G2)hgs.out⟩?_
      clear A2 G2 KEEP RV SR
      clear W
      rintro W⟨RV,SR⟩
      have VL':=(vC u1 2 6 10 14(wd ms(pm k 4))(wd ms(pm k 5))).trans VL
      clear VL
      generalize HV2:qZ u1 2 6 10 14(wd ms(pm k 4))(wd ms(pm k 5))=u2 at RV VL'
      replace HV2:=hd HV2
      have VL:=VL'
      clear VL' lp lq
      have CP:=SR.cell(j:=6)(by omega)
      have CQ:=SR.cell(j:=7)(by omega)
      have CM:=RV.mcell(jA k 6)HM.out
      have CN:=RV.mcell(jA k 7)HM.out
      have lp:(pm k 6:Int) < 16:=by have:=jA k 6;omega
      have lq:(pm k 7:Int) < 16:=by have:=jA k 7;omega
      have KEEP:Hid(∀w',W.grownBy w'(some(w.heap.size+1+1+1))→w'.cell?⟨gs,6,none⟩=some(.int .u8(pm k 6:Int))∧w'.cell?⟨gs,7,none⟩=some(.int .u8(pm k 7:Int))∧w'.cell?⟨gm,pm k 6,none⟩=some(.int .u32(wd ms(pm k 6):Int))∧w'.cell?⟨gm,pm k 7,none⟩=some(.int .u32(wd ms(pm k 7):Int))):=fun w' e=>⟨(SR.grow e hgs.out).cell(by omega),(SR.grow e hgs.out).cell(by omega),(RV.mgrow e).cell(by rw [HM.out];exact jA _ _),(RV.mgrow e).cell(by rw [HM.out];exact jA _ _)⟩
      clear CP CQ CM CN
      refine qgW((w.heap.size+1+1+1)) [0,1,2,3,4,5,6,7,8] [8] ?_
      repeat((first |refine qR _(fun w' e=>KEEP.out w'(jj(jV(Ext.refl _).drew _)e))?_ |refine qS ?_);go_frame)
      refine qD fun K hK=> ?_
      go_simp
      refine(yS(RV.arr.ext(Ext.refl _).drew)VL(a:=3)(b:=7)(c:=11)(d:=15)(by omega)(by omega)(by omega)(by omega)(HMb.out _(jA _ _))(HMb.out _(jA _ _))).mono ?_
      rintro e w2⟨rfl,A2,G2⟩
      refine hK.out _ _ G2 ?_
      clear hK K
      try go_frame
      refine jp ?_
      go_wp2_with fail
      refine jg(fun W'=>Rv w W' hs gm ms(qZ u2 3 7 11 15(wd ms(pm k 6))(wd ms(pm k 7)))∧Sr W' gs k)⟨RV.grow(jj(jV(Ext.refl _).drew _)G2)A2,SR.grow(jj(jV(Ext.refl _).drew _)G2)hgs.out⟩?_
      clear A2 G2 KEEP RV SR
      clear W
      rintro W⟨RV,SR⟩
      have VL':=(vC u2 3 7 11 15(wd ms(pm k 6))(wd ms(pm k 7))).trans VL
      clear VL
      generalize HV3:qZ u2 3 7 11 15(wd ms(pm k 6))(wd ms(pm k 7))=u3 at RV VL'
      replace HV3:=hd HV3
      have VL:=VL'
      clear VL' lp lq
      have CP:=SR.cell(j:=8)(by omega)
      have CQ:=SR.cell(j:=9)(by omega)
      have CM:=RV.mcell(jA k 8)HM.out
      have CN:=RV.mcell(jA k 9)HM.out
      have lp:(pm k 8:Int) < 16:=by have:=jA k 8;omega
      have lq:(pm k 9:Int) < 16:=by have:=jA k 9;omega
      have KEEP:Hid(∀w',W.grownBy w'(some(w.heap.size+1+1+1))→w'.cell?⟨gs,8,none⟩=some(.int .u8(pm k 8:Int))∧w'.cell?⟨gs,9,none⟩=some(.int .u8(pm k 9:Int))∧w'.cell?⟨gm,pm k 8,none⟩=some(.int .u32(wd ms(pm k 8):Int))∧w'.cell?⟨gm,pm k 9,none⟩=some(.int .u32(wd ms(pm k 9):Int))):=fun w' e=>⟨(SR.grow e hgs.out).cell(by omega),(SR.grow e hgs.out).cell(by omega),(RV.mgrow e).cell(by rw [HM.out];exact jA _ _),(RV.mgrow e).cell(by rw [HM.out];exact jA _ _)⟩
      clear CP CQ CM CN
      refine qgW((w.heap.size+1+1+1)) [0,1,2,3,4,5,6,7,8] [8] ?_
      repeat((first |refine qR _(fun w' e=>KEEP.out w'(jj(jV(Ext.refl _).drew _)e))?_ |refine qS ?_);go_frame)
      refine qD fun K hK=> ?_
      go_simp
      refine(yS(RV.arr.ext(Ext.refl _).drew)VL(a:=0)(b:=5)(c:=10)(d:=15)(by omega)(by omega)(by omega)(by omega)(HMb.out _(jA _ _))(HMb.out _(jA _ _))).mono ?_
      rintro e w2⟨rfl,A2,G2⟩
      refine hK.out _ _ G2 ?_
      clear hK K
      try go_frame
      refine jp ?_
      go_wp2_with fail
      refine jg(fun W'=>Rv w W' hs gm ms(qZ u3 0 5 10 15(wd ms(pm k 8))(wd ms(pm k 9)))∧Sr W' gs k)⟨RV.grow(jj(jV(Ext.refl _).drew _)G2)A2,SR.grow(jj(jV(Ext.refl _).drew _)G2)hgs.out⟩?_
      clear A2 G2 KEEP RV SR
      clear W
      rintro W⟨RV,SR⟩
      have VL':=(vC u3 0 5 10 15(wd ms(pm k 8))(wd ms(pm k 9))).trans VL
      clear VL
      generalize HV4:qZ u3 0 5 10 15(wd ms(pm k 8))(wd ms(pm k 9))=u4 at RV VL'
      replace HV4:=hd HV4
      have VL:=VL'
      clear VL' lp lq
      have CP:=SR.cell(j:=10)(by omega)
      have CQ:=SR.cell(j:=11)(by omega)
      have CM:=RV.mcell(jA k 10)HM.out
      have CN:=RV.mcell(jA k 11)HM.out
      have lp:(pm k 10:Int) < 16:=by have:=jA k 10;omega
      have lq:(pm k 11:Int) < 16:=by have:=jA k 11;omega
      have KEEP:Hid(∀w',W.grownBy w'(some(w.heap.size+1+1+1))→w'.cell?⟨gs,10,none⟩=some(.int .u8(pm k 10:Int))∧w'.cell?⟨gs,11,none⟩=some(.int .u8(pm k 11:Int))∧w'.cell?⟨gm,pm k 10,none⟩=some(.int .u32(wd ms(pm k 10):Int))∧w'.cell?⟨gm,pm k 11,none⟩=some(.int .u32(wd ms(pm k 11):Int))):=fun w' e=>⟨(SR.grow e hgs.out).cell(by omega),(SR.grow e hgs.out).cell(by omega),(RV.mgrow e).cell(by rw [HM.out];exact jA _ _),(RV.mgrow e).cell(by rw [HM.out];exact jA _ _)⟩
      clear CP CQ CM CN
      refine qgW((w.heap.size+1+1+1)) [0,1,2,3,4,5,6,7,8] [8] ?_
      repeat((first |refine qR _(fun w' e=>KEEP.out w'(jj(jV(Ext.refl _).drew _)e))?_ |refine qS ?_);go_frame)
      refine qD fun K hK=> ?_
      go_simp
      refine(yS(RV.arr.ext(Ext.refl _).drew)VL(a:=1)(b:=6)(c:=11)(d:=12)(by omega)(by omega)(by omega)(by omega)(HMb.out _(jA _ _))(HMb.out _(jA _ _))).mono ?_
      rintro e w2⟨rfl,A2,G2⟩
      refine hK.out _ _ G2 ?_
      clear hK K
      try go_frame
      refine jp ?_
      go_wp2_with fail
      refine jg(fun W'=>Rv w W' hs gm ms(qZ u4 1 6 11 12(wd ms(pm k 10))(wd ms(pm k 11)))∧Sr W' gs k)⟨RV.grow(jj(jV(Ext.refl _).drew _)G2)A2,SR.grow(jj(jV(Ext.refl _).drew _)G2)hgs.out⟩?_
      clear A2 G2 KEEP RV SR
      clear W
      rintro W⟨RV,SR⟩
      have VL':=(vC u4 1 6 11 12(wd ms(pm k 10))(wd ms(pm k 11))).trans VL
      clear VL
      generalize HV5:qZ u4 1 6 11 12(wd ms(pm k 10))(wd ms(pm k 11))=u5 at RV VL'
      replace HV5:=hd HV5
      have VL:=VL'
      clear VL' lp lq
      have CP:=SR.cell(j:=12)(by omega)
      have CQ:=SR.cell(j:=13)(by omega)
      have CM:=RV.mcell(jA k 12)HM.out
      have CN:=RV.mcell(jA k 13)HM.out
      have lp:(pm k 12:Int) < 16:=by have:=jA k 12;omega
      have lq:(pm k 13:Int) < 16:=by have:=jA k 13;omega
      have KEEP:Hid(∀w',W.grownBy w'(some(w.heap.size+1+1+1))→w'.cell?⟨gs,12,none⟩=some(.int .u8(pm k 12:Int))∧w'.cell?⟨gs,13,none⟩=some(.int .u8(pm k 13:Int))∧w'.cell?⟨gm,pm k 12,none⟩=some(.int .u32(wd ms(pm k 12):Int))∧w'.cell?⟨gm,pm k 13,none⟩=some(.int .u32(wd ms(pm k 13):Int))):=fun w' e=>⟨(SR.grow e hgs.out).cell(by omega),(SR.grow e hgs.out).cell(by omega),(RV.mgrow e).cell(by rw [HM.out];exact jA _ _),(RV.mgrow e).cell(by rw [HM.out];exact jA _ _)⟩
      clear CP CQ CM CN
      refine qgW((w.heap.size+1+1+1)) [0,1,2,3,4,5,6,7,8] [8] ?_
      repeat((first |refine qR _(fun w' e=>KEEP.out w'(jj(jV(Ext.refl _).drew _)e))?_ |refine qS ?_);go_frame)
      refine qD fun K hK=> ?_
      go_simp
      refine(yS(RV.arr.ext(Ext.refl _).drew)VL(a:=2)(b:=7)(c:=8)(d:=13)(by omega)(by omega)(by omega)(by omega)(HMb.out _(jA _ _))(HMb.out _(jA _ _))).mono ?_
      rintro e w2⟨rfl,A2,G2⟩
      refine hK.out _ _ G2 ?_
      clear hK K
      try go_frame
      refine jp ?_
      go_wp2_with fail
      refine jg(fun W'=>Rv w W' hs gm ms(qZ u5 2 7 8 13(wd ms(pm k 12))(wd ms(pm k 13)))∧Sr W' gs k)⟨RV.grow(jj(jV(Ext.refl _).drew _)G2)A2,SR.grow(jj(jV(Ext.refl _).drew _)G2)hgs.out⟩?_
      clear A2 G2 KEEP RV SR
      clear W
      rintro W⟨RV,SR⟩
      have VL':=(vC u5 2 7 8 13(wd ms(pm k 12))(wd ms(pm k 13))).trans VL
      clear VL
      generalize HV6:qZ u5 2 7 8 13(wd ms(pm k 12))(wd ms(pm k 13))=u6 at RV VL'
      replace HV6:=hd HV6
      have VL:=VL'
      clear VL' lp lq
      have CP:=SR.cell(j:=14)(by omega)
      have CQ:=SR.cell(j:=15)(by omega)
      have CM:=RV.mcell(jA k 14)HM.out
      have CN:=RV.mcell(jA k 15)HM.out
      have lp:(pm k 14:Int) < 16:=by have:=jA k 14;omega
      have lq:(pm k 15:Int) < 16:=by have:=jA k 15;omega
      have KEEP:Hid(∀w',W.grownBy w'(some(w.heap.size+1+1+1))→w'.cell?⟨gs,14,none⟩=some(.int .u8(pm k 14:Int))∧w'.cell?⟨gs,15,none⟩=some(.int .u8(pm k 15:Int))∧w'.cell?⟨gm,pm k 14,none⟩=some(.int .u32(wd ms(pm k 14):Int))∧w'.cell?⟨gm,pm k 15,none⟩=some(.int .u32(wd ms(pm k 15):Int))):=fun w' e=>⟨(SR.grow e hgs.out).cell(by omega),(SR.grow e hgs.out).cell(by omega),(RV.mgrow e).cell(by rw [HM.out];exact jA _ _),(RV.mgrow e).cell(by rw [HM.out];exact jA _ _)⟩
      clear CP CQ CM CN
      refine qgW((w.heap.size+1+1+1)) [0,1,2,3,4,5,6,7,8] [8] ?_
      repeat((first |refine qR _(fun w' e=>KEEP.out w'(jj(jV(Ext.refl _).drew _)e))?_ |refine qS ?_);go_frame)
      refine qD fun K hK=> ?_
      go_simp
      refine(yS(RV.arr.ext(Ext.refl _).drew)VL(a:=3)(b:=4)(c:=9)(d:=14)(by omega)(by omega)(by omega)(by omega)(HMb.out _(jA _ _))(HMb.out _(jA _ _))).mono ?_
      rintro e w2⟨rfl,A2,G2⟩
      refine hK.out _ _ G2 ?_
      clear hK K
      try go_frame
      refine jp ?_
      go_wp2_with fail
      refine⟨⟨k+1,by omega,by go_num,?_⟩,by simp [intOf];omega⟩
      have h9:jbm ms vk k=qZ u6 3 4 9 14(wd ms(pm k 14))(wd ms(pm k 15)):=by
       unfold jbm
       simp only []
       rw [HV0.out,HV1.out,HV2.out,HV3.out,HV4.out,HV5.out,HV6.out]
      rw [HSUC.out,h9]
      exact RV.grow(gr_trans(jV(Ext.refl _).drew _)G2)A2
     ·obtain rfl:k=10:=by omega
      rw [show((10:Nat):Int)=10 from rfl]
      generalize hV:roundsV ms v0 10=V at RV VL
      replace hV:=hd hV
      have vb:Hid(∀j,j < 16→wd V j < 4294967296):=fun j hj=>(RV.arr.2 j(by omega)).2.2
      go_wp2_with fail
      go_loopw [125](fun i wx=>∃(k:Nat)(ys:List Nat),k≤8∧i= .int .i64 k∧ys.length=8∧(∀j,j < k→wd ys j=wd hs j ^^^(wd V j ^^^ wd V(j+8)))∧(∀j,k≤j→j < 8→wd ys j=wd hs j)∧Rv w wx ys gm ms V)(fun i _=>8 - (intOf i).toNat)
      case atStart=>exact⟨0,hs,Nat.zero_le _,rfl,hl,fun j hj=>absurd hj(by omega),fun j _ _=>rfl,RV⟩
      case round =>
       obtain⟨k,ys,hk,rfl,yl,hy1,hy2,RY⟩ :=hrel
       clear RV
       by_cases hlt:k < 8
       ·have q0:=hy2 k(Nat.le_refl _)hlt
        have b0:=hb k hlt
        have b1:=vb.out k(by omega)
        have b2:=vb.out(k+8)(by omega)
        have cy:=RY.2.1.cell(i:=k)(by omega)
        rw [q0] at cy
        have fy:=RY.2.1.frozen k
        obtain⟨c1,f1,_⟩ :=RY.arr.fct(i:=k)(by omega)
        obtain⟨c2,f2,_⟩ :=RY.arr.fct(i:=k+8)(by omega)
        have u1:bits .xor .u32(wd V k:Int)(wd V(k+8):Int)=((wd V k ^^^ wd V(k+8):Nat):Int):=u32_xor_nat _ _ b1 b2
        have u2:bits .xor .u32(wd hs k:Int)((wd V k ^^^ wd V(k+8):Nat):Int)=((wd hs k ^^^(wd V k ^^^ wd V(k+8)):Nat):Int):=u32_xor_nat _ _ b0(jL b1 b2)
        have KEEP:Hid(∀w',Ext wr w'→w'.cell?⟨w.heap.size,k,none⟩=some(.int .u32(wd hs k:Int))∧w'.cell?⟨w.heap.size+1+1+1,k,none⟩=some(.int .u32(wd V k:Int))∧w'.cell?⟨w.heap.size+1+1+1,k+8,none⟩=some(.int .u32(wd V(k+8):Int))):=fun w' e=>⟨by rw [← q0];exact(RY.2.1.kept e RY.2.1.lt).cell(by omega),((RY.arr.ext e).fct(by omega)).1,((RY.arr.ext e).fct(by omega)).1⟩
        have i1:(k:Int) < 8:=by omega
        have i2:(k:Int) < 16:=by omega
        have i3:(k:Int)+8 < 16:=by omega
        have i4:IntKind.i64.wrap((k:Int)+8)=(k:Int)+8:=IntWalk.i64_in _(by omega)
        have i5:((k:Int)+8).toNat=k+8:=by omega
        have i6:(0:Int)≤(k:Int)+8:=by omega
        clear q0
        replace hy1:=hd hy1
        replace hy2:=hd hy2
        go_wp2_with fail
        refine yk 13 [0,1,2,3,4,5,6,7,8,9,10,11,12,13] [13] ?_
        repeat(refine qzR _(fun w' e=>KEEP.out w'((Ext.refl _).drew.trans e))?_;go_frame)
        refine qzD fun K1 hK1=> ?_
        go_simp
        refine hK1.out _ _(.inl rfl)?_
        clear hK1 K1
        refine jN ?_
        clear u1 u2 i1 i2 i3 i4 i5 i6 cy fy c1 f1 c2 f2 KEEP
        go_wp2_with fail
        refine⟨⟨k+1,ys.set k(wd hs k ^^^(wd V k ^^^ wd V(k+8))),by omega,by go_num,by rw [List.length_set];exact yl,fun j hj=> ?_,fun j h1 h2=> ?_,(RY.setH k _).ext(Ext.refl _).drew⟩,by simp [intOf];omega⟩
        ·rw [j8(by omega)]
         by_cases q:j=k
         ·rw [if_pos q,q]
         ·rw [if_neg q];exact hy1.out j(by omega)
        ·rw [j8(by omega),if_neg(by omega)];exact hy2.out j(by omega)h2
       ·obtain rfl:k=8:=by omega
        have hfin:=hd(jho yl hy1)
        have HL:=jf yl
        have hone:=jo ys
        have h1:=RY.2.1
        have h2:=RY.2.2.1
        have he:=RY.1
        unfold Wr at h1 h2
        generalize hC:(jb ys).toArray=C at h1 HL hone
        clear hy1 hy2 RY vb
        replace hC:=hd hC
        replace h1:=hd h1
        replace h2:=hd h2
        go_wp2_with(first
         |refine wpList_load_row rfl 218 _ rfl w.heap.size rfl 218 C(0,0)_ h1.out rfl rfl(by rw [HL];rfl)?_
         |refine wpList_store_row rfl 218 _ _ rfl(w.heap.size+1+1)C rfl rfl 218 _ h2.out(by rw [HL];rfl)(by rw [HL];rfl)hone ?_)
        (try simp only [Exit.inBlock,Exit.then])
        refine bodyPost_ret(results_cell_row rfl _ _(w.heap.size+1+1)218 C(0,0)_ rfl(setRow_heap _ _ _ _ _ _ h2.out)rfl rfl(by rw [HL];rfl))rfl ?_
        exact⟨by rw [ve,hM.out,← hv0.out,hV.out,hfin.out,hC.out],below_setRow he(by omega)_⟩
theorem Bs.cut{w:World}{A:Option Addr}{n c k:Nat}{xs:List UInt8}(h:Bs w A n c xs)(hk:k≤n):Bs w(if c=k then A else A.map(·.add k))(n - k)(c - k)(xs.drop k):=by
 have h1:=h.le
 have h2:=h.2.2.1
 refine⟨by rw [List.length_drop,h.len],by omega,by omega,fun h0=> ?_⟩
 obtain⟨b,off,rfl,hb,hc⟩ :=h.pos(by omega)
 rw [if_neg(by omega)]
 refine⟨b,off+k,?_,hb,fun j hj=> ?_⟩
 ·by_cases hk0:k=0
  ·subst hk0;simp [Addr.add]
  ·simp [Addr.add,hk0]
 ·rw [jfv,Nat.add_assoc]
  exact hc(k+j)(by omega)
theorem Bs.recap{w:World}{A:Option Addr}{n c c2:Nat}{xs:List UInt8}(h:Bs w A n c xs)(h2:n≤c2)(hm:c2≤9223372036854775807:=by omega):Bs w A n c2 xs:=⟨h.1,h2,hm,h.2.2.2⟩
theorem Bs.cutAt{w:World}{b off n c k:Nat}{xs:List UInt8}(h:Bs w(some⟨b,off,none⟩)n c xs)(hk:k < n):Bs w(some⟨b,off+k,none⟩)(n - k)(c - k)(xs.drop k):=by
 have h1:=h.cut(Nat.le_of_lt hk)
 have h2:=h.le
 rw [if_neg(by omega)] at h1
 have:(some(⟨b,off,none⟩:Addr)).map(·.add k)=some⟨b,off+k,none⟩ :=by
  by_cases hk0:k=0
  ·subst hk0;simp [Addr.add]
  ·simp [Addr.add,hk0]
 rwa [this] at h1
theorem jfW:(Tryz.prog.info? 5).map(·.size)=some 1:=by kernel_rfl
theorem ja7{w:World}{ops:Array Oper}{rest:List Oper}{o:Oper}{a:Act}{Q:Exit→Act→World→Prop}(hgd:o.guard=none){x lo:Operand}{A:Option Addr}{n c k:Nat}{kd:IntKind}{z:Int}
  (ho:o.op= .slice 33 x(some lo)none none)(hx:a.eval x= .slice A n c)(hl:a.eval lo= .int kd z)(hz:z=(k:Int))(hk:k≤n)(hnc:n≤c)
  (hK:∀A',(∀w0 xs,Bs w0 A n c xs→Bs w0 A'(n - k)(c - k)(xs.drop k))→wpList Tryz.prog ops Q rest(a.put o.dst(.slice A'(n - k)(c - k)))w):wpList Tryz.prog ops Q(o :: rest)a w:=by
 subst hz
 refine wpList_plain hgd fun K hK'=> ?_
 have hr:(Instr.slice 33(.slice A n c)(some(.int kd(k:Int)))none none).run Tryz.prog w= .ok(.slice(if c=k then A else A.map(·.add k))(n - k)(c - k))w:=by
  obtain⟨i,hi,hsz⟩ :=Option.map_eq_some_iff.1 jfW
  simp [Instr.slice,run_underlying Tryz.underlying33,Instr.sliceBounds,Instr.sliceBound,asIntOf,sizeOf,typeInfo,hi,hsz]
  intro hlt
  omega
 have hop:(execOp a.eval o).run Tryz.prog w= .ok(.value(.slice(if c=k then A else A.map(·.add k))(n - k)(c - k)))w:=by
  obtain⟨dst,op,ty,pos,af,gd⟩ :=o
  simp only at ho
  subst ho
  simp only [execOp,hx,hl,Option.map,Instr.sliceAt]
  go_simp
  cases A <;> rfl
 unfold Oper.wp
 rw [hop]
 exact hK' _ _(hK _(fun w0 xs h=>h.cut hk))
theorem ZR{w:World}{ops:Array Oper}{rest:List Oper}{o:Oper}{a:Act}{Q:Exit→Act→World→Prop}(hgd:o.guard=none){x lo hi:Operand}{A:Option Addr}{n c k h:Nat}{kd kd':IntKind}{z:Int}
  (ho:o.op= .slice 33 x(some lo)(some hi)none)(hx:a.eval x= .slice A n c)(hl:a.eval lo= .int kd(k:Int))(hh:a.eval hi= .int kd' z)(hz:z=(h:Int))(hk:k≤h)(hhn:h≤n)(hnc:n≤c)
  (hK:∀A',(∀w0 xs,Bs w0 A n c xs→Bs w0 A'(h - k)(c - k)((xs.take h).drop k))→wpList Tryz.prog ops Q rest(a.put o.dst(.slice A'(h - k)(c - k)))w):wpList Tryz.prog ops Q(o :: rest)a w:=by
 refine wpList_plain hgd fun K hK'=> ?_
 have hop:(execOp a.eval o).run Tryz.prog w= .ok(.value(.slice(if c=k then A else A.map(·.add k))(h - k)(c - k)))w:=by
  obtain⟨dst,op,ty,pos,af,gd⟩ :=o
  simp only at ho
  subst ho hz
  obtain⟨i,hi',hsz⟩ :=Option.map_eq_some_iff.1 jfW
  have q1:(k:Int)≤(h:Int):=by omega
  have q2:(h:Int)≤(c:Int):=by omega
  simp only [execOp,hx,hl,hh,Option.map,Instr.sliceAt]
  go_simp
  cases A <;> rfl
 unfold Oper.wp
 rw [hop]
 exact hK' _ _(hK _(fun w0 xs hb=>(hb.take hhn).cut hk))
def Lt32(vs:List Nat):Prop:= ∀j,wd vs j < 4294967296
theorem Lt32.set{vs:List Nat}(h:Lt32 vs){k x:Nat}(hx:x < 4294967296):Lt32(vs.set k x):=fun j=>by
 by_cases hk:k < vs.length
 ·rw [j8 hk]
  split
  ·exact hx
  ·exact h j
 ·rw [List.set_eq_of_length_le(by omega)];exact h j
theorem Lt32.mix{vs:List Nat}(h:Lt32 vs)(a b c d x y:Nat):Lt32(qZ vs a b c d x y):=by
 have ha:∀{vs:List Nat}{a b x:Nat},Lt32 vs→Lt32(vW vs a b x):=fun h=>h.set(q9 _ _)
 have hr:∀{n:Nat}{vs:List Nat}{a b:Nat},Lt32 vs→Lt32(qa n vs a b):=fun h=>h.set(yA(jL(h _)(h _)))
 have hs:∀{vs:List Nat}{a b:Nat},Lt32 vs→Lt32(qt vs a b):=fun h=>h.set(q9 _ _)
 unfold qZ
 exact hr(hs(hr(ha(hr(hs(hr(ha h)))))))
theorem Lt32.row{ms vs:List Nat}(h:Lt32 vs)(k:Nat):Lt32(jbm ms vs k):=by
 unfold jbm
 iterate 8 refine Lt32.mix ?_ _ _ _ _ _ _
 exact h
theorem Lt32.rounds{ms vs:List Nat}(h:Lt32 vs):∀k,Lt32(vF ms vs k)
 |0=>h
 |k+1=>by rw [Yc];exact(Lt32.rounds h k).row k
theorem Lt32.append{hs is:List Nat}(h:Lt32 hs)(h':Lt32 is):Lt32(hs ++ is):=fun j=>by
 unfold wd
 rw [List.getD_eq_getElem?_getD,List.getElem?_append]
 split
 ·rw [← List.getD_eq_getElem?_getD];exact h j
 ·rw [← List.getD_eq_getElem?_getD];exact h' _
theorem zZ:Lt32 qI:=fun j=>by
 by_cases hj:j < 8
 ·have:∀j,j < 8→wd qI j < 4294967296:=by decide
  exact this j hj
 ·unfold wd;rw [List.getD_eq_getElem?_getD,List.getElem?_eq_none(by simp [qI];omega)];decide
theorem Lt32.start{hs:List Nat}(h:Lt32 hs){t:Nat}(ht:t < 18446744073709551616)(last:Bool):Lt32(vX hs t last):=by
 have h0:=h.append zZ
 have h1:=h0.set(k:=12)(jL(h0 12)(Nat.mod_lt t(by decide)))
 have h2:=h1.set(k:=13)(jL(h0 13)(show t / 4294967296 < 4294967296 by omega))
 unfold vX
 cases last
 ·exact h2
 ·exact h2.set(jL(by decide)(h0 14))
theorem Lt32.fin{hs vs:List Nat}(h:Lt32 hs)(h':Lt32 vs):Lt32(ZW hs vs):=fun j=>by
 by_cases hj:j < 8
 ·have:wd(ZW hs vs)j=wd hs j ^^^(wd vs j ^^^ wd vs(j+8)):=by simp [wd,ZW,List.getD,hj]
  rw [this]
  exact jL(h j)(jL(h' j)(h' _))
 ·unfold wd;rw [List.getD_eq_getElem?_getD,List.getElem?_eq_none(by simp [ZW];omega)];decide
theorem Lt32.comp{hs:List Nat}(h:Lt32 hs){xs:List UInt8}{t:Nat}(ht:t < 18446744073709551616)(last:Bool):Lt32(ve hs xs t last):=h.fin((h.start ht last).rounds 10)
def h0L(k:Nat):List Nat:=qI.set 0(wd qI 0 ^^^(16842784 ^^^ k *256))
def hAt(hs:List Nat)(t:Nat)(bs:List UInt8):Nat→List Nat
 |0=>hs
 |i+1=>ve(hAt hs t bs i)(qP((bs.drop(64 *i)).take 64))(t+64 *(i+1))false
def vI(m:Nat):Nat:=(m - 1) / 64
def Yt(hs:List Nat)(t:Nat)(bs:List UInt8):List UInt8:=
 qW(ve(hAt hs t bs(vI bs.length))(qP(bs.drop(64 *vI bs.length)))(t+bs.length)true)
def jC(ks bs:List UInt8):List UInt8:=
 if ks.length=0 then Yt(h0L 0)0 bs
 else if bs.length=0 then qW(ve(h0L ks.length)(qP ks)64 true)
 else Yt(ve(h0L ks.length)(qP ks)64 false)64 bs
theorem jc8{k:Nat}(h:k≤32):Lt32(h0L k):=zZ.set(jL(zZ 0)(jL(by decide)(by omega)))
theorem Zc(k:Nat):(h0L k).length=8:=by simp [h0L,qI]
theorem jfG{hs:List Nat}{t:Nat}{bs:List UInt8}(h:hs.length=8):∀i,(hAt hs t bs i).length=8
 |0=>h
 |i+1=>yg _ _ _ _
theorem jhy{hs:List Nat}{t:Nat}{bs:List UInt8}(h:Lt32 hs):∀i,t+64 *i < 18446744073709551616→Lt32(hAt hs t bs i)
 |0,_=>h
 |i+1,hi=>(jhy h i(by omega)).comp(by omega)_
theorem ZE(hs:List Nat)(t:Nat)(bs:List UInt8):(Yt hs t bs).length=32:=by
 unfold Yt;rw [v9,yg]
theorem qq(ks bs:List UInt8):(jC ks bs).length=32:=by
 unfold jC
 split
 ·exact ZE _ _ _
 ·split
  ·rw [v9,yg]
  ·exact ZE _ _ _
end
section
open Go.ChangeShapes Go.WideShapes Go.ChangeAt Go.RowKit Go.Deep
set_option maxRecDepth 100000
def j3(xs:List UInt8):List UInt8:=jC [] xs ++ kL(jY(jC [] xs)9)
theorem yT(xs:List UInt8):(j3 xs).length=64:=by unfold j3;rw [List.length_append,qq,zw]
def zt(s p:List UInt8):List UInt8:=kL(jY s(ofV p))
def jek(k:List UInt8):Int:=if k=List.replicate 32 0 then 12 else 0
def upB(z m:Int):Bool:=decide(0≤z)&& decide(z≤m)
def hdC(pk:List UInt8)(p n:Int):List Value:=cellsOf pk ++ [.int .i64 p, .int .i64 n]
theorem yy{pk:List UInt8}(h:pk.length=32)(p n:Int):(hdC pk p n).length=34:=by simp [hdC,ja,h]
theorem upTo_calls{w:World}{z m:Int}:Calls Tryz.prog 145 #[.int .i64 z, .int .i64 m] w fun e w'=>e= .returned(.bool(upB z m))∧Ext w w':=by
 by_cases h1:0≤z
 ·have d1:decide(z≥0)=true:=decide_eq_true h1
  by_cases h2:z≤m
  ·have d2:decide(z≤m)=true:=decide_eq_true h2
   have hb:Hid(upB z m=true):=by unfold Hid upB;rw [decide_eq_true h1,d2];rfl
   go_enter Tryz.func145,Tryz.ntmps145
   go_wp2_with fail
   go_ret
   exact⟨by rw [hb.out];rfl,Ext.refl _⟩
  ·have d2:decide(z≤m)=false:=decide_eq_false h2
   have hb:Hid(upB z m=false):=by unfold Hid upB;rw [decide_eq_true h1,d2];rfl
   go_enter Tryz.func145,Tryz.ntmps145
   go_wp2_with fail
   go_ret
   exact⟨by rw [hb.out];rfl,Ext.refl _⟩
 ·have d1:decide(z≥0)=false:=decide_eq_false h1
  have hb:Hid(upB z m=false):=by unfold Hid upB;rw [decide_eq_false h1];rfl
  go_enter Tryz.func145,Tryz.ntmps145
  go_wp2_with fail
  go_ret
  exact⟨by rw [hb.out];rfl,Ext.refl _⟩
def okH(p n:Int):Bool:=upB p 1000000 && upB n 1000000
set_option maxHeartbeats 1000000 in
theorem validHead_calls{w:World}{pk:List UInt8}{p n:Int}(lp:pk.length=32):Calls Tryz.prog 115 #[.agg(hdC pk p n).toArray] w fun e w'=>e= .returned(.bool(okH p n))∧Ext w w':=by
 have UP:Hid(∀(W:World)(z:Int),Calls Tryz.prog 145 #[.int .i64 z, .int .i64 1000000] W fun e w'=>e= .returned(.bool(upB z 1000000))∧Ext W w'):=fun W z=>jfh
 have c32:Hid((hdC pk p n)[32]? =some(.int .i64 p)):=by unfold Hid hdC;rw [List.getElem?_append_right(by rw [ja,lp];omega)];simp [ja,lp]
 have c33:Hid((hdC pk p n)[33]? =some(.int .i64 n)):=by unfold Hid hdC;rw [List.getElem?_append_right(by rw [ja,lp];omega)];simp [ja,lp]
 have hR:Hid(okH p n=(upB p 1000000 && upB n 1000000)):=rfl
 generalize okH p n=ok at *
 generalize hdC pk p n=hd at *
 have B0:Hid(Cb(w.alloc(Obj.cells hd.toArray 47))w.heap.size 47 hd∧Ext w(w.alloc(Obj.cells hd.toArray 47))):=⟨Cb.new _ _ _,(Ext.refl w).alloc _⟩
 go_enter Tryz.func115,Tryz.ntmps115
 go_upto_region 1 with fail
 refine wp_gen(fun W=>Cb W w.heap.size 47 hd∧Ext w W)B0.out ?_
 clear B0
 rintro w0⟨k0,x0⟩
 have b0:=k0.cell c32.out
 replace k0:=hd k0
 replace x0:=hd x0
 go_wp2_with fail
 refine(UP.out _ _).mono ?_
 rintro e w1⟨rfl,e1⟩
 have b1:=(k0.out.ext e1).cell c33.out
 have x1:=hd(x0.out.trans e1)
 clear b0 k0 x0 e1
 by_cases hp:upB p 1000000=true
 ·rw [hp] at hR ⊢
  go_wp2_with fail
  refine(UP.out _ _).mono ?_
  rintro e w2⟨rfl,e2⟩
  have x2:=hd(x1.out.trans e2)
  have hR2:Hid(upB n 1000000=ok):=by unfold Hid;rw [hR.out];rfl
  rw [hR2.out]
  clear b1 x1 e2 hR
  go_wp2_with fail
  go_ret
  exact⟨rfl,x2.out⟩
 ·rw [Bool.not_eq_true] at hp
  have hR2:Hid(ok=false):=by unfold Hid;rw [hR.out,hp];rfl
  rw [hp]
  clear b1 hR
  go_wp2_with fail
  go_ret
  exact⟨by rw [hR2.out];rfl,x1.out⟩
end
section
open Go.ChangeShapes Go.WideShapes Go.ChangeAt Go.RowKit Go.Deep
theorem jeh{xs:List UInt8}{k:Nat}(hk:k < xs.length):bt xs.reverse k=bt xs(xs.length - 1 - k):=by
 unfold bt
 simp [List.getD,hk,List.getElem?_reverse,show xs.length - 1 - k < xs.length by omega]
def FillBack(w wr:World)(n k:Nat)(f:Nat→Nat):Prop:=Ext w wr∧wr.rowIs w.heap.size 5 n(fun i=>if n≤i+k then .int .u8(f i:Int)else .int .u8 0)
theorem FillBack.step{w wr:World}{n k:Nat}{f:Nat→Nat}(h:FillBack w wr n k f){j:Nat}(hj:j+k+1=n){u:Int}(hu:u=(f j:Int)):
  FillBack w(wr.setCell⟨w.heap.size,j,none⟩(.int .u8 u))n(k+1)f:=by
 subst hu
 refine⟨h.1.setCell(Nat.le_refl _)_,(h.2.set j _).congr fun i _=> ?_⟩
 by_cases e:i=j
 ·subst e;simp only [if_true];rw [if_pos(by omega)]
 ·simp only [if_neg e]
  by_cases hi:n≤i+k
  ·rw [if_pos hi,if_pos(by omega)]
  ·rw [if_neg hi,if_neg(by omega)]
set_option maxHeartbeats 400000 in
theorem jaK{A:Option Addr}{n c:Nat}{xs:List UInt8}{w:World}(h:Bs w A n c xs)(hm:n≤281474976710656):
  Calls Tryz.prog 146 #[.slice A n c] w(Qw xs.reverse w):=by
 have h1:=h.le
 have h2:=h.cap
 have hmk:=jhR n hm
 go_enter Tryz.func146,Tryz.ntmps146
 go_wp2
 clear hmk
 go_loopw [10](fun i wr=>∃k:Nat,k≤n∧i= .int .i64 k∧FillBack w wr n k(fun j=>bt xs(n - 1 - j)))(fun i _=>n - (intOf i).toNat)
 case atStart=>exact⟨0,Nat.zero_le _,rfl,(Ext.refl w).alloc _,(World.rowIs_made w _ n _).congr fun i hi=>by rw [if_neg(by omega)]⟩
 case round =>
  obtain⟨k,hk,rfl,hf⟩ :=hrel
  by_cases hlt:k < n
  ·obtain⟨b,off,rfl,hb,hc⟩ :=h.pos(by omega)
   have g1:=(hf.1.cell(p:=⟨b,off+k,none⟩)hb).trans(hc k hlt)
   have g3:=hf.2.cell(i:=n - 1 - k)(by omega)
   rw [if_neg(by omega)] at g3
   have g4:=hf.2.frozen(n - 1 - k)
   clear hc
   go_wp2
   go_roundw
   case rel =>
    exact⟨k+1,by omega,by go_num,hf.step(by omega)(by rw [show n - 1 - (n - 1 - k)=k by omega])⟩
   case measure=>simp [intOf];omega
  ·obtain rfl:k=n:=by omega
   go_wp2
   go_ret
   refine⟨_,_,_,rfl,?_,hf.1⟩
   refine⟨by rw [List.length_reverse,h.len],Nat.le_refl _,by unfold maxLen;omega,fun _=>⟨w.heap.size,0,rfl,hf.2.lt,fun j hj=> ?_⟩⟩
   rw [Nat.zero_add,hf.2.cell hj,if_pos(by omega),jeh(by rw [h.len];exact hj),h.len]
set_option maxHeartbeats 400000 in
theorem Yj{n m:Nat}{many:Int}{w:World}(hn:n < 18446744073709551616)(h1:0≤many)(h2:many≤9223372036854775807)(hm8:m≤8)(hM:(if(8:Int) < many then 8 else many)=(m:Int)):
  Calls Tryz.prog 116 #[.int .u64(n:Int), .int .i64 many] w(Qw(J3 n m).reverse w):=by
 have hM':=hd hM
 clear hM
 go_enter Tryz.func116,Tryz.ntmps116
 go_wp2_with fail
 refine(Zh hn h1 h2 hm8 hM'.out).mono ?_
 rintro e w1⟨A,k,c,rfl,hb,he⟩
 go_wp2_with fail
 have hk:k≤8:=by have:=hb.len;rw [vL] at this;omega
 refine(jaK hb(by omega)).mono ?_
 rintro e w2⟨A,k,c,rfl,hb2,he2⟩
 go_wp2_with fail
 go_ret
 exact⟨_,_,_,rfl,hb2,he.trans he2⟩
end
section
open Go.ChangeShapes Go.WideShapes Go.ChangeAt Go.RowKit Go.Deep
set_option maxRecDepth 100000
def u8v(x:UInt8):Value:= .int .u8(x.toNat:Int)
theorem jiJ{xs:List UInt8}{j:Nat}(h:j < xs.length):(xs.map u8v)[j]? =some(.int .u8(bt xs j:Int)):=by simp [u8v,bt,List.getD,h]
def Own(B:Nat)(w:World)(A:Option Addr)(n c:Nat)(xs:List UInt8):Prop:=w.ownsRow B 5 1(.slice A n c)n(xs.map u8v)
section
variable{w w':World}{B:Nat}{A:Option Addr}{n c:Nat}{xs:List UInt8}
theorem Own.nil(B:Nat)(w:World):Own B w none 0 0 []:=World.ownsRow_nil w B _ 1
theorem Own.made(w:World)(B cap:Nat)(hB:B≤w.heap.size)(hm:cap≤281474976710656):Own B(w.alloc(.cells(madeCells #[.int .u8 0] cap)5))(some⟨w.heap.size,0,none⟩)0 cap []:=
 World.ownsRow_made w _ cap hB(by unfold maxLen;omega)(by rw [size_madeCells,Nat.mul_one])
theorem Own.len(h:Own B w A n c xs):xs.length=n:=by simpa using h.1
theorem Own.bs(h:Own B w A n c xs):Bs w A n c xs:=by
 have hl:=h.len
 rcases h.2 with⟨hv,hn⟩ | ⟨g,cap,cur,hv,hb,hg,hnc,hcm,hcs,htk⟩
 ·injection hv with h1 h2 h3
  subst h1 h2 h3
  exact⟨hl,Nat.le_refl _,Nat.zero_le _,fun h=>absurd h(by omega)⟩
 ·injection hv with h1 h2 h3
  subst h1 h3
  refine⟨hl,hnc,hcm,fun h0=>⟨g,0,rfl,?_,fun j hj=> ?_⟩⟩
  ·rcases Nat.lt_or_ge g w.heap.size with h |h
   ·exact h
   ·rw [Array.getElem?_eq_none h] at hg;cases hg
  ·rw [Nat.zero_add]
   have e:(xs.map u8v)[j]? =cur[j]?:=by
    rw [← htk,List.getElem?_take,if_pos(by omega),Array.getElem?_toList]
   rw [jiJ(by omega)] at e
   simp [World.cell?,hg,← e]
theorem Own.ext(h:Own B w A n c xs)(he:Ext w w'):Own B w' A n c xs:=by
 refine⟨h.1,?_⟩
 rcases h.2 with h | ⟨g,cap,cur,hv,hb,hg,r⟩
 ·exact .inl h
 ·exact .inr⟨g,cap,cur,hv,hb,(he.block g(by
   rcases Nat.lt_or_ge g w.heap.size with h |h
   ·exact h
   ·rw [Array.getElem?_eq_none h] at hg;cases hg)).trans hg,r⟩
theorem Own.ge(h:Own B w A n c xs):∀g,Value.ownBlock(.slice A n c)=some g→B≤g:=fun g hg=>(World.ownsRow.lt h g hg).1
theorem Own.kept{row:Option Nat}(h:Own B w A n c xs)(hg:w.grownBy w' row)(hne:Value.ownBlock(.slice A n c)=none∨Value.ownBlock(.slice A n c)≠row):Own B w' A n c xs:=World.ownsRow.kept h hg hne
end
theorem Own.empty(w:World)(B:Nat)(hB:B≤w.heap.size):Own B(w.alloc(.cells #[] 5))(some⟨w.heap.size,0,none⟩)0 0 []:=
 World.ownsRow_lit(e:=5)(size:=1)w #[] 0 hB(Nat.zero_le _)rfl
theorem jhQ(n:Nat)(hn:n≤281474976710656)(w:World):
  (Instr.makeSlice 33(.int .i64 0)(.int .i64(n:Int))).run Tryz.prog w= .ok(.slice(some⟨w.heap.size,0,none⟩)0 n)(w.alloc(.cells(madeCells #[.int .u8 0] n)5)):=by
 obtain⟨i,hi,hz0,hz1,hz2⟩ :=info_parts jdc
 have h:=run_make(P:=Tryz.prog)w 33 5 i(.int .u8 0)Tryz.underlying33 hi hz0 .i64 .i64 0(n:Int)(by omega)(by omega)(by rw [hz2];omega)(by omega)
 simpa [hz1,Value.cells] using h
theorem jf7{w:World}{B:Nat}{A A':Option Addr}{n c m c':Nat}{xs ys:List UInt8}(ty:TypeId)(h:Own B w A n c xs)(hr:Bs w A' m c' ys)(hm:n+m≤140737488355328)(hB:B≤w.heap.size):
  ∃A'' c'' w',(Builtin.append_ #[33,33] ty #[.slice A n c, .slice A' m c']).run Tryz.prog w= .ok(.slice A''(n+m)c'')w'∧Own B w' A''(n+m)c''(xs ++ ys)∧w.grownBy w'(Value.ownBlock(.slice A n c))∧
   (Value.ownBlock(.slice A''(n+m)c'')=Value.ownBlock(.slice A n c)∨Value.ownBlock(.slice A''(n+m)c'')=some w.heap.size):=by
 obtain⟨i,hi,hz0,hz1,hz2⟩ :=info_parts jdc
 have form:∀(v':Value)(w':World),w'.ownsRow B 5 1 v'(n+m)(xs.map u8v ++ ys.map u8v)→∃A'' c'',v'= .slice A''(n+m)c''∧Own B w' A''(n+m)c''(xs ++ ys):=by
  intro v' w' ho
  rcases ho.2 with⟨hv,hn⟩ | ⟨g,cap,cur,hv,_⟩
  ·refine⟨none,0,by rw [hv,hn],?_⟩
   rw [hv] at ho
   unfold Own
   rw [List.map_append]
   rw [show(Value.slice none(n+m)0)= .slice none 0 0 by rw [hn]]
   exact ho
  ·refine⟨_,_,hv,?_⟩
   rw [hv] at ho
   unfold Own
   rw [List.map_append]
   exact ho
 rcases A' with _ |a
 ·have hm0:m=0:=by
   rcases Nat.eq_zero_or_pos m with h0 |h0
   ·exact h0
   ·obtain⟨b,off,e,_⟩ :=hr.pos h0
    cases e
  subst hm0
  have hy:=hr.zero
  subst hy
  refine⟨A,c,w,?_,by simpa using h,⟨rfl,rfl,rfl,Nat.le_refl _,fun _ _ _=>rfl⟩, .inl rfl⟩
  rcases h.2 with⟨hv,hn⟩ | ⟨g,cap,cur,hv,_,_,hnc,_⟩
  ·rw [hv]
   subst hn
   injection hv with _ _ h3
   subst h3
   simp [Builtin.append_,run_underlying Tryz.underlying33,sizeOf,typeInfo,hi,Builtin.lenOf,Builtin.firstCells]
   exact Eq.symm ‹A=none›
  ·rw [hv]
   injection hv with _ _ h3
   subst h3
   simp [Builtin.append_,run_underlying Tryz.underlying33,sizeOf,typeInfo,hi,Builtin.lenOf,Builtin.firstCells,hnc,storeCells]
   exact Eq.symm ‹A=some _›
 ·obtain⟨v',w',hrun,ho,hg,_,hown⟩ :=run_append_own_at(P:=Tryz.prog)w B 33 ty 5 i(.int .u8 0)1 1 Tryz.underlying33 hi hz0 hz1 hz2 rfl(by decide)(.slice A n c)n(xs.map u8v)h a m c'(ys.map u8v)
   (by rw [List.length_map,hr.len,Nat.mul_one])(fun j u hu=>by
    have hj:j < ys.length:=by
     rcases Nat.lt_or_ge j ys.length with h |h
     ·exact h
     ·simp [h] at hu
    obtain⟨b,off,e,hb,hc⟩ :=hr.pos(by have:=hr.len;omega)
    injection e with e
    subst e
    have hplain:(⟨b,off,none⟩:Addr).add j=⟨b,off+j,none⟩ :=by unfold Addr.add;split <;> simp_all
    rw [hplain,hc j(by rw [← hr.len];exact hj),← jiJ hj,hu])
   (fun u hu=>by
    obtain⟨x,_,rfl⟩ :=List.mem_map.1 hu
    rfl)(by unfold maxLen;omega)(by omega)hB
  obtain⟨A'',c'',rfl,ho'⟩ :=form v' w' ho
  exact⟨A'',c'',w',hrun,ho',hg,hown⟩
theorem jcP{w:World}{o:Oper}{a:Act}{K:Act→World→Prop}{Q:Exit→Act→World→Prop}{B:Nat}{A A':Option Addr}{n c m c':Nat}{xs ys:List UInt8}{s x:Operand}
  (ho:o.op= .call{callee:= .builtin .append,args:= #[s,x],argTypes:= #[33,33]})(hs:a.eval s= .slice A n c)(hx:a.eval x= .slice A' m c')
  (h:Own B w A n c xs)(hr:Bs w A' m c' ys)(hm:n+m≤140737488355328)(hB:B≤w.heap.size)
  (hK:∀A'' c'' w',Own B w' A''(n+m)c''(xs ++ ys)→w.grownBy w'(Value.ownBlock(.slice A n c))→Below B w w'→K(a.put o.dst(.slice A''(n+m)c''))w'):o.wp Tryz.prog a w K Q:=by
 obtain⟨A'',c'',w',hrun,h2,h3,h4⟩ :=jf7 o.type h hr hm hB
 unfold Oper.wp execOp
 simp only [ho,resolve,invoke,builtin,Sem.run_bind,Sem.run_pure,Result.andThen_ok,List.map_toArray,List.map_cons,List.map_nil,hs,hx,hrun]
 exact hK A'' c'' w' h2 h3((Below.refl B w).grown h3 hB h.ge)
theorem jJ{w:World}{ops:Array Oper}{rest:List Oper}{o:Oper}{a:Act}{Q:Exit→Act→World→Prop}(hgd:o.guard=none){B:Nat}{A A':Option Addr}{n c m c':Nat}{xs ys:List UInt8}{s x:Operand}
  (ho:o.op= .call{callee:= .builtin .append,args:= #[s,x],argTypes:= #[33,33]})(hs:a.eval s= .slice A n c)(hx:a.eval x= .slice A' m c')
  (h:Own B w A n c xs)(hr:Bs w A' m c' ys)(hm:n+m≤140737488355328)(hB:B≤w.heap.size)
  (hK:∀A'' c'' w',Own B w' A''(n+m)c''(xs ++ ys)→w.grownBy w'(Value.ownBlock(.slice A n c))→Below B w w'→wpList Tryz.prog ops Q rest(a.put o.dst(.slice A''(n+m)c''))w'):wpList Tryz.prog ops Q(o :: rest)a w:=
 wpList_plain hgd fun _ hK'=>jcP ho hs hx h hr hm hB fun A'' c'' w' h2 h3 h4=>hK' _ _(hK A'' c'' w' h2 h3 h4)
end
section
open Go.ChangeShapes Go.WideShapes Go.ChangeAt Go.RowKit Go.Deep
theorem Cb.bs{w:World}{g:Nat}{T:TypeId}{L:List Value}(h:Cb w g T L){p q:List Value}{xs:List UInt8}{off n:Nat}(hL:L=p ++(cellsOf xs ++ q))(hp:p.length=off)(hn:xs.length=n)(hm:n≤1000000):Bs w(some⟨g,off,none⟩)n n xs:=
 ⟨hn,Nat.le_refl _,by unfold maxLen;omega,fun _=>⟨g,off,rfl,h.lt,fun j hj=>h.mid hL hp j _(jZ(by omega))⟩⟩
end
section
open Go.ChangeShapes Go.WideShapes Go.ChangeAt Go.RowKit Go.Deep
set_option maxRecDepth 100000
def Qd(n:Nat):List UInt8:=(J3 n 4).reverse
theorem high4_len(n:Nat):(Qd n).length=4:=by rw [Qd,List.length_reverse,vL]
def zo(pk:List UInt8)(p n:Nat):List UInt8:=(pk ++ Qd p)++ Qd n
theorem headL_len{pk:List UInt8}(h:pk.length=32)(p n:Nat):(zo pk p n).length=40:=by simp [zo,Ze,h]
theorem hd_cells{pk:List UInt8}(lp:pk.length=32)(p n:Int):hdC pk p n= [] ++(cellsOf pk ++ [.int .i64 p, .int .i64 n])∧(hdC pk p n)[32]? =some(.int .i64 p)∧(hdC pk p n)[33]? =some(.int .i64 n):=by
 refine⟨by simp [hdC],?_,?_⟩
 ·unfold hdC;rw [List.getElem?_append_right(by rw [ja,lp];omega)];simp [ja,lp]
 ·unfold hdC;rw [List.getElem?_append_right(by rw [ja,lp];omega)];simp [ja,lp]
set_option maxHeartbeats 2000000 in
theorem headBytes_bad{w:World}{pk:List UInt8}{p n:Int}(lp:pk.length=32)(hb:okH p n=false):Calls Tryz.prog 78 #[.agg(hdC pk p n).toArray] w fun e w'=>e= .returned(.tuple #[.slice none 0 0, .int .i64 1])∧Ext w w':=by
 have VH:=hd(fun(W:World) =>validHead_calls(w:=W)(p:=p)(n:=n)lp)
 rw [hb] at VH
 have L_hd:=yy lp p n
 generalize hdC pk p n=hd at *
 have S_hd:hd.toArray.size=34:=by rw [List.size_toArray,L_hd]
 have B0:Hid(Cb(w.alloc(Obj.cells hd.toArray 47))w.heap.size 47 hd∧Ext w(w.alloc(Obj.cells hd.toArray 47))):=⟨Cb.new _ _ _,(Ext.refl w).alloc _⟩
 go_enter Tryz.func78,Tryz.ntmps78
 go_upto_region 1 with fail
 refine wp_gen(fun W=>Cb W w.heap.size 47 hd∧Ext w W)B0.out ?_
 clear B0
 rintro w0⟨k0,x0⟩
 replace k0:=hd k0
 replace x0:=hd x0
 go_wp2_with(refine wpList_load_row rfl 47 _ rfl w.heap.size rfl 47 hd.toArray(0,0)_ k0.out rfl rfl(by rw [S_hd];rfl)?_;go_frame)
 refine(VH.out _).mono ?_
 rintro e w1⟨rfl,e1⟩
 go_wp2_with fail
 go_ret2
 exact⟨rfl,x0.out.trans e1⟩
set_option maxHeartbeats 4000000 in
theorem headBytes_ok{w:World}{pk:List UInt8}{p n:Nat}(lp:pk.length=32)(hp:p≤1000000)(hn:n≤1000000):Calls Tryz.prog 78 #[.agg(hdC pk(p:Int)(n:Int)).toArray] w(YP(zo pk p n)0 w):=by
 have hb:okH(p:Int)(n:Int)=true:=by
  unfold okH upB
  rw [decide_eq_true(show(0:Int)≤(p:Int)by omega),decide_eq_true(show(p:Int)≤1000000 by omega),decide_eq_true(show(0:Int)≤(n:Int)by omega),decide_eq_true(show(n:Int)≤1000000 by omega)]
  rfl
 have VH:=hd(fun(W:World) =>validHead_calls(w:=W)(p:=(p:Int))(n:=(n:Int))lp)
 rw [hb] at VH
 have HP:Hid(∀W,Calls Tryz.prog 116 #[.int .u64(p:Int), .int .i64 4] W(Qw(Qd p)W)):=fun W=>Yj(by omega)(by omega)(by omega)(by omega)rfl
 have HN:Hid(∀W,Calls Tryz.prog 116 #[.int .u64(n:Int), .int .i64 4] W(Qw(Qd n)W)):=fun W=>Yj(by omega)(by omega)(by omega)(by omega)rfl
 have u1:IntKind.u64.wrap(p:Int)=(p:Int):=IntWalk.u64_in _(by omega)
 have u2:IntKind.u64.wrap(n:Int)=(n:Int):=IntWalk.u64_in _(by omega)
 obtain⟨c0,c32,c33⟩ :=jc9 lp(p:Int)(n:Int)
 have L_hd:=yy lp(p:Int)(n:Int)
 have hR:Hid((pk ++ Qd p)++ Qd n=zo pk p n):=rfl
 replace c0:=hd(fun _:Unit=>c0)
 replace c32:=hd c32
 replace c33:=hd c33
 generalize zo pk p n=hl at *
 generalize hdC pk(p:Int)(n:Int)=hd at *
 have lP:=Ze p
 have lN:=Ze n
 generalize Qd p=hp4 at *
 generalize Qd n=hn4 at *
 clear hb hp hn
 have S_hd:hd.toArray.size=34:=by rw [List.size_toArray,L_hd]
 obtain⟨r,hr⟩:∃r,r=w.heap.size:=⟨_,rfl⟩
 have B0:Hid(Cb(w.alloc(Obj.cells hd.toArray 47))r 47 hd∧Ext w(w.alloc(Obj.cells hd.toArray 47))):=by rw [hr];exact⟨Cb.new _ _ _,(Ext.refl w).alloc _⟩
 go_enter Tryz.func78,Tryz.ntmps78
 go_upto_region 1 with fail
 refine wp_gen(fun W=>Cb W r 47 hd∧Ext w W)B0.out ?_
 rw [← hr]
 have wr:w.heap.size≤r:=Nat.le_of_eq hr.symm
 clear B0
 replace hr:=hd hr
 rintro w0⟨k0,x0⟩
 replace k0:=hd k0
 replace x0:=hd x0
 go_wp2_with(refine wpList_load_row rfl 47 _ rfl r rfl 47 hd.toArray(0,0)_ k0.out rfl rfl(by rw [S_hd];rfl)?_;go_frame)
 refine(VH.out _).mono ?_
 rintro e w1⟨rfl,e1⟩
 have k1:=hd(k0.out.ext e1)
 have x1:=hd(x0.out.trans e1)
 have r1:r+1≤w1.heap.size:=(k0.out.ext e1).lt
 have b1:=hd(k1.out.bs(c0.out())rfl lp(by omega))
 clear k0 x0 e1 VH
 go_upto_region 4 with(at_builtin;(with_reducible refine jJ rfl(B:=r+1)(s:= .const(.slice none 0 0))(x:= .tmp 9)rfl rfl rfl(Own.nil _ _)b1.out(by omega)r1 ?_);intro A2 c2 w2 o2 g2 b2;simp only [Nat.zero_add,List.nil_append] at o2 ⊢;replace o2:=hd o2;clear g2;replace b2:=hd b2;go_frame)
 refine wp_gen(fun W=>Own(r+1)W A2 32 c2 pk∧Cb W r 47 hd∧Ext w W)⟨o2.out,k1.out.kept b2.out(by omega),Below.trans x1.out(b2.out.mono(by omega))⟩?_
 clear o2 b2 b1 k1 x1 r1
 rintro w3⟨o3,k3,x3⟩
 have b3:=k3.cell c32.out
 replace o3:=hd o3
 replace k3:=hd k3
 replace x3:=hd x3
 go_wp2_with fail
 refine(HP.out _).mono ?_
 rintro e w4⟨A4,n4,c4,rfl,b4,e4⟩
 obtain rfl:n4=4:=by rw [← b4.len,lP]
 have o4:=hd(o3.out.ext e4)
 have k4:=hd(k3.out.ext e4)
 have x4:=hd(x3.out.trans e4)
 have r4:r+1≤w4.heap.size:=(k3.out.ext e4).lt
 replace b4:=hd b4
 clear b3 o3 k3 x3 e4 HP
 go_upto_region 5 with(at_builtin;(with_reducible refine jJ rfl(B:=r+1)(s:= .tmp 11)(x:= .tmp 15)rfl rfl rfl o4.out b4.out(by omega)r4 ?_);intro A5 c5 w5 o5 g5 b5;replace o5:=hd o5;clear g5;replace b5:=hd b5;go_frame)
 refine wp_gen(fun W=>Own(r+1)W A5(32+4)c5(pk ++ hp4)∧Cb W r 47 hd∧Ext w W)⟨o5.out,k4.out.kept b5.out(by omega),Below.trans x4.out(b5.out.mono(by omega))⟩?_
 clear o5 b5 o4 b4 k4 x4 r4
 rintro w6⟨o6,k6,x6⟩
 have b6:=k6.cell c33.out
 replace o6:=hd o6
 replace k6:=hd k6
 replace x6:=hd x6
 go_wp2_with fail
 refine(HN.out _).mono ?_
 rintro e w7⟨A7,n7,c7,rfl,b7,e7⟩
 obtain rfl:n7=4:=by rw [← b7.len,lN]
 have o7:=hd(o6.out.ext e7)
 have x7:=hd(x6.out.trans e7)
 have r7:r+1≤w7.heap.size:=(k6.out.ext e7).lt
 replace b7:=hd b7
 clear b6 o6 k6 x6 e7 HN
 go_wp2_with(at_builtin;(with_reducible refine jJ rfl(B:=r+1)(s:= .tmp 17)(x:= .tmp 21)rfl rfl rfl o7.out b7.out(by omega)r7 ?_);intro A8 c8 w8 o8 g8 b8;replace o8:=hd o8;clear g8;replace b8:=hd b8;go_frame)
 go_ret2
 exact⟨A8,_,c8,rfl,by rw [← hR.out];exact o8.out.bs,Below.trans x7.out(b8.out.mono(by omega))⟩
theorem jkI{w:World}{g k:Nat}(hk:k < 8):(Instr.sliceAt 23(.pointer(some⟨g,0,none⟩))(some(.int .i64(4 *(k:Int))))none none).run Tryz.prog w= .ok(.slice(some⟨g,4 *k,none⟩)(32 - 4 *k)(32 - 4 *k))w:=by
 have hn:Tryz.prog.arrayLen 23=32:=rfl
 rw [run_sliceAt_array_l w 23 _ rfl .i64 _(by omega)(by rw [hn];omega)]
 have hs:(sizeOf(Tryz.prog.elem 23)).run Tryz.prog w= .ok 1 w:=rfl
 rw [hs]
 have h1:(4 *(k:Int)).toNat=4 *k:=by omega
 have h3:(⟨g,0,none⟩:Addr).add(4 *k *1)=⟨g,4 *k,none⟩ :=by unfold Addr.add;split <;> simp_all
 show Result.ok(slicedAt _ _ _ _ _)w=_
 rw [hn,h1]
 unfold slicedAt
 rw [if_neg(by omega),h3]
set_option maxRecDepth 100000 in
set_option maxHeartbeats 1000000 in
theorem J8{vs:List Nat}{w:World}(h:vs.length=8)(hb:∀i,i < 8→wd vs i < 4294967296):
  Calls Tryz.prog 126 #[.agg(jb vs).toArray] w fun e w'=>e= .returned(.agg(cellsOf(qW vs)).toArray)∧Ext w w':=by
 have HIX:=hd(fun(w:World)(k:Nat)(hk:k < 8) =>jey(w:=w)(t:=218)rfl h hk)
 have HL:=jf h
 have g0:∀o2 o3,(((w.alloc(Obj.cells(jb vs).toArray 218)).alloc o2).alloc o3).heap[w.heap.size]? =some(.cells(jb vs).toArray 218(0,0)):=fun o2 o3=>jF _ _ _ _
 have g1:∀o1 o3,(((w.alloc o1).alloc(Obj.cells(List.replicate 32(Value.int .u8 0)).toArray 23)).alloc o3).heap[w.heap.size+1]? =some(.cells(List.replicate 32(Value.int .u8 0)).toArray 23(0,0)):=fun o1 o3=>jH _ _ _ _
 have g2:∀o1 o2,(((w.alloc o1).alloc o2).alloc(Obj.cells(List.replicate 32(Value.int .u8 0)).toArray 23)).heap[w.heap.size+1+1]? =some(.cells(List.replicate 32(Value.int .u8 0)).toArray 23(0,0)):=fun o1 o2=>jB _ _ _ _
 replace g1:=hd g1
 replace g2:=hd g2
 replace g0:=hd g0
 generalize hC:(jb vs).toArray=C at g0 HL HIX
 replace hC:=hd hC
 go_enter Tryz.func126,Tryz.ntmps126
 go_wp2_with(refine wpList_load_row rfl 218 _ rfl w.heap.size rfl 218 C(0,0)_(g0.out _ _)rfl rfl(by rw [HL];rfl)?_)
 obtain⟨B,hB⟩:∃B,B=w.heap.size+1+1:=⟨_,rfl⟩
 go_loopw [7](fun i wr=>∃(k:Nat)(xs:List UInt8),k≤8∧i= .int .i64 k∧xs.length=32∧(∀j,j < 4 *k→bt xs j=bt(qW vs)j)∧Ext w wr∧wr.heap[w.heap.size+1]? =some(.cells(List.replicate 32(Value.int .u8 0)).toArray 23(0,0))∧wr.heap[w.heap.size+1+1]? =some(.cells(cellsOf xs).toArray 23(0,0)))(fun i _=>8 - (intOf i).toNat)
 case atStart =>
  exact⟨0,List.replicate 32 0,Nat.zero_le _,rfl,rfl,fun j hj=>absurd hj(by omega),(((Ext.refl _).alloc _).alloc _).alloc _,g1.out _ _,g2.out _ _⟩
 case round =>
  obtain⟨k,xs,hk,rfl,hl,hv,he,h1,h2⟩ :=hrel
  by_cases hlt:k < 8
  ·have hix:=fun w=>HIX.out w k hlt
   have hsl:=fun w':World=>jkI(w:=w')(g:=w.heap.size+1+1)hlt
   have hwk:=hb k hlt
   have m1:IntKind.i64.wrap(4 *(k:Int))=4 *(k:Int):=IntWalk.i64_in _(by omega)
   have m2:IntKind.u64.wrap(wd vs k:Int)=(wd vs k:Int):=IntWalk.u64_in _(by omega)
   have LOW:=hd(fun w0:World=>Zh(n:=wd vs k)(m:=4)(many:=4)(w:=w0)(by omega)(by omega)(by omega)(by omega)(by decide))
   replace h1:=hd h1
   replace h2:=hd h2
   replace hv:=hd hv
   go_wp2_with fail
   refine qgB B [0,1,2,3,4,5,6] [5,6] ?_
   repeat((first |refine qR0 ?_ |refine qS ?_);go_frame)
   refine qD fun K hK=> ?_
   go_simp
   refine(LOW.out _).mono ?_
   rintro e w1⟨A1,n1,c1,rfl,b1,e1⟩
   have hsz:B≤wr.heap.size:=by
    rcases Nat.lt_or_ge(w.heap.size+1+1)wr.heap.size with q |q
    ·omega
    ·have:=h2.out;rw [Array.getElem?_eq_none q] at this;cases this
   have hsz':w.heap.size+1+1 < wr.heap.size:=by
    rcases Nat.lt_or_ge(w.heap.size+1+1)wr.heap.size with q |q
    ·exact q
    ·have:=h2.out;rw [Array.getElem?_eq_none q] at this;cases this
   refine hK.out _ _(e1.mono hsz)?_
   clear hK K
   try go_frame
   repeat((first |refine qR0 ?_ |refine qS ?_);go_frame)
   refine qD fun K hK=> ?_
   go_simp
   have hn1:n1=4:=by have:=b1.len;rw [vL] at this;omega
   subst hn1
   refine JZ(cur:=cellsOf xs)rfl((e1.block(w.heap.size+1+1)hsz').trans h2.out)b1(by omega)(by rw [ja];omega)?_
   intro W' h3 h4
   rw [Yf] at h3
   go_simp
   refine hK.out _ _(h4.out B(by omega))?_
   clear hK K
   refine jp ?_
   have e2:Below B wr W':=Below.trans((Below.refl B wr).drew)(Below.trans(e1.mono hsz)(h4.out B(by omega)))
   clear h4
   go_wp2_with fail
   refine⟨⟨k+1,splice xs(4 *k)(J3(wd vs k)4),by omega,by go_num,(jaR(by rw [vL];omega)).trans hl,fun j hj=> ?_,Below.trans he(e2.mono(by omega)),(e2.block _(by omega)).trans h1.out,h3.out⟩,by simp [intOf];omega⟩
   rw [jbs(by rw [vL];omega)(by rw [vL];omega)]
   by_cases q:j < 4 *k
   ·rw [if_pos q];exact hv.out j q
   ·rw [if_neg q,bt_lowL(by omega),JK(by omega),show j / 4=k by omega,show j % 4=j - 4 *k by omega]
  ·obtain rfl:k=8:=by omega
   have hvs:=hd(Y0(xs:=xs)(ys:=bytesL vs)(by rw [v9];omega)(fun j hj=>hv j(by omega)))
   have HS:(cellsOf xs).toArray.size=32:=by simp [ja,hl]
   have hone:=ji xs
   generalize hD:(cellsOf xs).toArray=D at h2 HS hone
   replace hD:=hd hD
   replace h1:=hd h1
   replace h2:=hd h2
   clear hv
   go_wp2_with(first
    |refine wpList_load_row rfl 23 _ rfl(w.heap.size+1+1)rfl 23 D(0,0)_ h2.out rfl rfl(by rw [HS];rfl)?_
    |refine wpList_store_row rfl 23 _ _ rfl(w.heap.size+1)D rfl rfl 23 _ h1.out(by rw [HS];rfl)(by rw [HS];rfl)hone ?_)
   (try simp only [Exit.inBlock,Exit.then])
   refine bodyPost_ret(results_cell_row rfl _ _(w.heap.size+1)23 D(0,0)_ rfl(setRow_heap _ _ _ _ _ _ h1.out)rfl rfl(by rw [HS];rfl))rfl ?_
   exact⟨by rw [← hvs.out,hD.out],below_setRow he(by omega)_⟩
end
section
open Go.ChangeShapes Go.WideShapes Go.ChangeAt Go.RowKit Go.Deep
theorem jeu(w:World)(g:Nat)(C:Array Value):w.grownBy(w.setRow g C)(some g):=
 ⟨rfl,rfl,rfl,by simp,fun i _ hne=>setRow_other _ _ _ _(fun q=>hne(by rw [q]))⟩
def jlb:Value→Nat
 | .slice _ n _=>n
 |_=>0
def Mw(w wr:World)(hs:List Nat):Prop:=
 Ext w wr∧wr.heap[w.heap.size]? =some(.cells(List.replicate 32(Value.int .u8 0)).toArray 23(0,0))∧Wr wr(w.heap.size+1)218 hs
theorem Mw.ext{w wr wr':World}{hs:List Nat}(h:Mw w wr hs)(e:Ext wr wr'):Mw w wr' hs:=
 ⟨h.1.trans e,(e.block _(jh h.2.1)).trans h.2.1,h.2.2.kept e h.2.2.lt⟩
theorem Mw.set{w wr:World}{hs:List Nat}(h:Mw w wr hs)(k x:Nat):Mw w(wr.setCell⟨w.heap.size+1,k,none⟩(.int .u32(x:Int)))(hs.set k x):=
 ⟨h.1.setCell(show w.heap.size≤w.heap.size+1 by omega)_,(Below.heap_setCell _ _ _ _(show w.heap.size≠w.heap.size+1 by omega)).trans h.2.1,h.2.2.set⟩
theorem Mw.put{w wr:World}{hs hs':List Nat}(h:Mw w wr hs):Mw w(wr.setRow(w.heap.size+1)(jb hs').toArray)hs':=
 ⟨below_setRow h.1(by omega)_,(setRow_other _ _ _ _(by omega)).trans h.2.1,setRow_heap _ _ _ _ _ _ h.2.2⟩
set_option maxRecDepth 100000 in
set_option maxHeartbeats 4000000 in
theorem Zi{A A':Option Addr}{n c m d:Nat}{ks bs:List UInt8}{w:World}(h:Bs w A n c ks)(h':Bs w A' m d bs)(hk:n≤32){tg:TypeId×Nat×Nat}(hG:Gl w tg):
  Calls Tryz.prog 95 #[.slice A n c, .slice A' m d] w fun e w'=>e= .returned(.tuple #[.agg(cellsOf(jC ks bs)).toArray, .int .i64 0])∧Ext w w':=by
 have h1:=h.le
 have h2:=h.cap
 have h3:=h'.le
 have h4:=h'.cap
 have hk':decide((32:Int) < (n:Int))=false:=by simp;omega
 have HG:Hid(∀wr:World,Ext w wr→Gl wr tg):=fun wr e=>hG.kept e hG.lt
 have HGL:=jf(show qI.length=8 from rfl)
 have hone:=jo qI
 have hG0:Hid(∀o,(w.alloc o).heap[0]? =some(.cells(jb qI).toArray tg.1 tg.2)):=fun o=>hG.kept((Ext.refl w).alloc o)hG.lt
 clear hG
 generalize hI:(jb qI).toArray=I at HGL hone hG0
 replace hI:=hd hI
 have hal:∀w,(zeroValue 23).run Tryz.prog w= .ok(.agg jr)w:=fun _=>by kernel_rfl
 have MW0:Hid(∀cs,Mw w(((w.alloc(Obj.cells jr 23)).alloc(Obj.cells cs 218)).setRow(w.heap.size+1)(jb qI).toArray)qI):=fun cs =>
  ⟨below_setRow(((Ext.refl w).alloc _).alloc _)(by omega)_,(setRow_other _ _ _ _(by omega)).trans(jQ _ _ _),setRow_heap _ _ _ _ _ _(jK _ _ _)⟩
 rw [hI.out] at MW0
 generalize jr=Z at hal MW0
 go_enter Tryz.func95,Tryz.ntmps95
 go_upto_region 4 with(first
  |refine wpList_load_row rfl 218 _ rfl 0 rfl tg.1 I tg.2 _(hG0.out _)rfl rfl(by rw [HGL];rfl)?_
  |refine wpList_store_row rfl 218 _ _ rfl(w.heap.size+1)I rfl rfl 218 _(by with_reducible exact jK _ _ _)(by rw [HGL];rfl)(by rw [HGL];rfl)hone ?_)
 refine jg(fun wr=>Mw w wr qI)(MW0.out _)?_
 clear MW0 hal hone HGL hG0 hI
 clear Z
 rintro w0 M0
 have x1:bits .xor .u32 16842784((n:Int)*256)=((16842784 ^^^ n *256:Nat):Int):=by
  rw [show(n:Int)*256=((n *256:Nat):Int)by omega]
  exact u32_xor_nat 16842784(n *256)(by decide)(by omega)
 have x2:bits .xor .u32(wd qI 0:Int)((16842784 ^^^ n *256:Nat):Int)=((wd qI 0 ^^^(16842784 ^^^ n *256):Nat):Int):=u32_xor_nat _ _(zZ 0)(jL(by decide)(by omega))
 have c0:=M0.2.2.cell(i:=0)(by decide)
 have f0:=M0.2.2.frozen 0
 go_upto_if 24 with(fail)
 refine jg(fun wr=>Mw w wr(h0L n))(M0.set 0 _)?_
 clear x1 x2 c0 f0 M0 w0
 rintro w0 M0
 replace HG:=hd(HG.out)
 go_cut [7](fun s7 wx=>∃(t0:Nat)(hs:List Nat),s7= .int .u64(t0:Int)∧hs.length=8∧Lt32 hs∧t0≤64∧Mw w wx hs∧jC ks bs=Yt hs t0 bs)
 case first =>
  by_cases hn:n=0
  ·subst hn
   go_wp2_with fail
   go_meet
   exact⟨0,h0L 0,rfl,Zc 0,jc8(by omega),by omega,M0,by unfold jC;rw [if_pos h.len]⟩
  ·have hn':decide(0 < n)=true:=by simp;omega
   have WS:=jf(Zc n)
   have M0':=hd M0
   have hK:ks.length≠0:=by rw [h.len];exact hn
   have PL:(qP ks).length=64:=padL_len(by rw [h.len];omega)
   have LT:=jc8 hk
   have CALL:Hid(∀(W:World)(last:Bool),Ext w W→Calls Tryz.prog 124 #[.agg(jb(h0L n)).toArray, .agg(cellsOf(qP ks)).toArray, .int .u64 64, .bool last] W fun e w'=>e= .returned(.agg(jb(ve(h0L n)(qP ks)64 last)).toArray)∧Ext W w'):=fun W last e=>Qm(t:=64)(Zc n)PL(by decide)(fun j _=>LT j)(HG.out W e)
   clear M0 LT PL
   by_cases hm0:m=0
   ·have hmac:Hid(jC ks bs=qW(ve(h0L n)(qP ks)64 true)):=by unfold jC;rw [if_neg hK,if_pos(by rw [h'.len];exact hm0),h.len];rfl
    have HL:=compL_len(h0L n)(qP ks)64 true
    have HB:Hid(Lt32(ve(h0L n)(qP ks)64 true)):=(jc8 hk).comp(by decide)true
    subst hm0
    go_wp2_with fail
    refine yk 8 [0,1,3,4,5,6,2,7,8] [2,7,8] ?_
    refine qzV rfl(fun w'=>w'.heap[(w.heap.size+1)]? =some(.cells(jb(h0L n)).toArray 218(0,0)))(fun w' e=>(M0'.out.ext((Ext.refl _).drew.trans e)).2.2)(.agg(jb(h0L n)).toArray)(fun w' hF=>jd rfl rfl hF rfl rfl(by rw [WS];rfl))?_
    go_frame
    repeat(refine jip ?_;go_frame)
    refine qzD fun K1 hK1=> ?_
    go_simp
    refine(Ya(h.ext M0'.out.1.drew)(by omega)).mono ?_
    rintro e w1⟨rfl,e1⟩
    refine hK1.out _ _(.inr e1)?_
    clear hK1 K1
    try go_frame
    refine qzD fun K1 hK1=> ?_
    go_simp
    refine(CALL.out _ _(M0'.out.1.drew.trans e1)).mono ?_
    rintro e w2⟨rfl,e2⟩
    refine hK1.out _ _(.inr e2)?_
    clear hK1 K1
    try go_frame
    have M2:=M0'.out.ext((Ext.refl _).drew.trans(e1.trans e2))
    clear CALL e1 e2 M0' WS
    generalize ve(h0L n)(qP ks)64 true=C at *
    have WS:=wcells_size HL
    have W1:=wcells_one C
    refine qzD fun K1 hK1=> ?_
    refine wp_store_row _ _ _ rfl(w.heap.size+1)(jb C).toArray rfl rfl 218 _ M2.2.2(by rw [WS];rfl)(by rw [WS];exact jf(Zc n))W1 ?_
    refine hK1.out _ _(.inl rfl)?_
    clear hK1 K1
    refine jN ?_
    refine ye(fun wr=>Mw w wr C)M2.put ?_
    clear M2
    rintro w3 M3
    obtain⟨e3,r3,h3'⟩ :=M3
    replace r3:=hd r3
    replace h3':=hd h3'
    go_wp2_with(refine wpList_load_row rfl 218 _ rfl(w.heap.size+1)rfl 218(jb C).toArray(0,0)_ h3'.out rfl rfl(by rw [WS];rfl)?_)
    refine(J8 HL(fun j _=>HB.out j)).mono ?_
    rintro e w4⟨rfl,e4⟩
    have BS:(cellsOf(qW C)).toArray.size=32:=by simp [ja,v9,HL]
    have B1:=cellsOf_one(qW C)
    replace r3:=hd((e4.block _(jh r3.out)).trans r3.out)
    generalize hD:(cellsOf(qW C)).toArray=D at *
    replace hD:=hd hD
    go_wp2_with(refine wpList_store_row rfl 23 _ _ rfl w.heap.size D rfl rfl 23 _ r3.out(by rw [BS];rfl)(by rw [BS];rfl)B1 ?_)
    (try simp only [Exit.inBlock,Exit.then])
    refine bodyPost_ret(v:= .tuple #[.agg D, .int .i64 0])?_ rfl ?_
    ·exact qj rfl _ _ w.heap.size 23 D(0,0)_ _ rfl rfl(setRow_heap _ _ _ _ _ _ r3.out)rfl rfl(by rw [BS];rfl)
    ·exact⟨by rw [hmac.out,hD.out],below_setRow(e3.trans e4)(Nat.le_refl _)_⟩
   ·have hmac:Hid(jC ks bs=Yt(compL(h0L n)(qP ks)64 false)64 bs):=by unfold jC;rw [if_neg hK,if_neg(by rw [h'.len];exact hm0),h.len];rfl
    have HL:=compL_len(h0L n)(qP ks)64 false
    have HB:Hid(Lt32(ve(h0L n)(qP ks)64 false)):=(jc8 hk).comp(by decide)false
    have hmb:((m:Int) == 0)=false:=by simp;exact hm0
    go_wp2_with fail
    refine yk 8 [0,1,3,4,5,6,2,7,8] [2,7,8] ?_
    refine qzV rfl(fun w'=>w'.heap[(w.heap.size+1)]? =some(.cells(jb(h0L n)).toArray 218(0,0)))(fun w' e=>(M0'.out.ext((Ext.refl _).drew.trans e)).2.2)(.agg(jb(h0L n)).toArray)(fun w' hF=>jd rfl rfl hF rfl rfl(by rw [WS];rfl))?_
    go_frame
    repeat(refine jip ?_;go_frame)
    refine qzD fun K1 hK1=> ?_
    go_simp
    refine(Ya(h.ext M0'.out.1.drew)(by omega)).mono ?_
    rintro e w1⟨rfl,e1⟩
    refine hK1.out _ _(.inr e1)?_
    clear hK1 K1
    try go_frame
    refine qzD fun K1 hK1=> ?_
    go_simp
    refine(CALL.out _ _(M0'.out.1.drew.trans e1)).mono ?_
    rintro e w2⟨rfl,e2⟩
    refine hK1.out _ _(.inr e2)?_
    clear hK1 K1
    try go_frame
    have M2:=M0'.out.ext((Ext.refl _).drew.trans(e1.trans e2))
    clear CALL e1 e2 M0' WS
    generalize ve(h0L n)(qP ks)64 false=C at *
    have WS:=wcells_size HL
    have W1:=wcells_one C
    refine qzD fun K1 hK1=> ?_
    refine wp_store_row _ _ _ rfl(w.heap.size+1)(jb C).toArray rfl rfl 218 _ M2.2.2(by rw [WS];rfl)(by rw [WS];exact jf(Zc n))W1 ?_
    refine hK1.out _ _(.inl rfl)?_
    clear hK1 K1
    refine jN ?_
    refine ye(fun wr=>Mw w wr C)M2.put ?_
    clear M2
    rintro w3 M3
    go_wp2_with fail
    go_meet
    exact⟨64,C,rfl,HL,HB.out,by omega,M3,hmac.out⟩
 case rest =>
  obtain⟨t0,hs,rfl,hl,hlt,ht0,M1,hmac⟩ :=hcut
  replace hmac:=hd hmac
  clear M0
  have hb':Hid(∀W,Ext w W→Bs W A' m d bs):=fun W e=>h'.ext e
  have hbl:=h'.len
  replace h':=hd h'
  replace hlt:=hd hlt
  go_wp2_with fail
  go_loopw [1,7](fun x t wx=>∃(i:Nat)(B:Option Addr)(q c' T:Nat),i≤vI m∧x= .slice B q c'∧t= .int .u64(T:Int)∧T=t0+64 *i∧q=m - 64 *i∧Bs w B q c'(bs.drop(64 *i))∧Mw w wx(hAt hs t0 bs i))(fun x _ _=>slen x)
  case atStart=>exact⟨0,A',m,d,t0,Nat.zero_le _,rfl,rfl,by omega,by omega,h'.out,M1⟩
  case round =>
   obtain⟨i,B,q,c',T,hi,rfl,rfl,hT,hq,hB,MI⟩ :=hrel
   have q1:=hB.le
   have q2:=hB.cap
   have LT:=hd(jhy(t:=t0)(bs:=bs)hlt.out i(by unfold vI at hi;omega))
   have LN:=jfG(t:=t0)(bs:=bs)hl i
   have WS:=jf LN
   have TB:T+64+q < 18446744073709551616:=by unfold vI at hi;omega
   by_cases hq64:64 < q
   ·have hi1:i+1≤vI m:=by unfold vI at hi ⊢;omega
    have HTK:=hd(hB.take(k:=64)(by omega))
    have MI':=hd MI
    have PL:(padL((bs.drop(64 *i)).take 64)).length=64:=Yk(by simp;omega)
    have CALL:Hid(∀(W:World),Ext w W→Calls Tryz.prog 124 #[.agg(jb(hAt hs t0 bs i)).toArray, .agg(cellsOf(qP((bs.drop(64 *i)).take 64))).toArray, .int .u64((T:Int)+64), .bool false] W fun e w'=>e= .returned(.agg(jb(hAt hs t0 bs(i+1))).toArray)∧Ext W w'):=fun W e=>by
     have h9:=Qm(t:=T+64)(last:=false)LN PL(by omega)(fun j _=>LT.out j)(HG.out W e)
     rw [hAt,show t0+64 *(i+1)=T+64 by omega]
     exact h9
    have LN1:=jfG(t:=t0)(bs:=bs)hl(i+1)
    have hB':=hd hB
    obtain⟨b,off,rfl,hbl',hbc⟩ :=hB.pos(by omega)
    clear hbc MI PL LT hB
    replace hT:=hd hT
    replace hq:=hd hq
    generalize hHI:hAt hs t0 bs i=HI at *
    replace hHI:=hd hHI
    have c64: ¬ c'=64:=by omega
    have c0: ¬ c'=0:=by omega
    have i64c:(64:Int)≤(c':Int):=by omega
    go_wp2_with fail
    refine yk 6 [0,1,2,4,3,5,6] [3,5,6] ?_
    refine qzV rfl(fun w'=>w'.heap[(w.heap.size+1)]? =some(.cells(jb HI).toArray 218(0,0)))(fun w' e=>(MI'.out.ext((Ext.refl _).drew.trans e)).2.2)(.agg(jb HI).toArray)(fun w' hF=>jd rfl rfl hF rfl rfl(by rw [WS];rfl))?_
    go_frame
    repeat(refine jip ?_;go_frame)
    refine qzD fun K1 hK1=> ?_
    go_simp
    refine(Ya(HTK.out.ext MI'.out.1.drew)(by omega)).mono ?_
    rintro e w1⟨rfl,e1⟩
    refine hK1.out _ _(.inr e1)?_
    clear hK1 K1
    try go_frame
    refine qzD fun K1 hK1=> ?_
    go_simp
    refine(CALL.out _(MI'.out.1.drew.trans e1)).mono ?_
    rintro e w2⟨rfl,e2⟩
    refine hK1.out _ _(.inr e2)?_
    clear hK1 K1
    try go_frame
    have e3:Ext wr w2:=((Ext.refl _).drew.trans(e1.trans e2))
    have M2:=MI'.out.ext e3
    clear CALL e1 e2 e3 MI'
    generalize hHJ:hAt hs t0 bs(i+1)=HJ at *
    replace hHJ:=hd hHJ
    have WS1:=jf LN1
    have W1:=wcells_one HJ
    refine qzD fun K1 hK1=> ?_
    refine wp_store_row _ _ _ rfl(w.heap.size+1)(jb HJ).toArray rfl rfl 218 _ M2.2.2(by rw [WS1];rfl)(by rw [WS1];exact WS)W1 ?_
    refine hK1.out _ _(.inl rfl)?_
    clear hK1 K1
    refine jN ?_
    refine ye(fun wr=>Mw w wr HJ)M2.put ?_
    clear M2 HTK
    rintro w3 M3
    replace M3:=hd M3
    have i64q:(64:Int)≤(q:Int):=by omega
    go_wp2_with fail
    refine⟨⟨i+1,_,_,_,T+64,hi1,rfl,by go_num,by have:=hT.out;omega,by have:=hq.out;omega,?_,by rw [hHJ.out];exact M3.out⟩,by simp only [jlb];omega⟩
    have h9:=hB'.out.cutAt hq64
    rw [List.drop_drop] at h9
    exact h9
   ·have hif:i=vI m:=by unfold vI at hi ⊢;omega
    have MI':=hd MI
    have PL:(padL(bs.drop(64 *i))).length=64:=Yk(by simp;omega)
    have hTm:T+q=t0+m:=by unfold vI at hif;omega
    have HMT:Hid(jC ks bs=qW(ve(hAt hs t0 bs i)(qP(bs.drop(64 *i)))(T+q)true)):=by
     rw [hmac.out,Yt,hbl,← hif,hTm];rfl
    have CALL:Hid(∀(W:World),Ext w W→Calls Tryz.prog 124 #[.agg(jb(hAt hs t0 bs i)).toArray, .agg(cellsOf(qP(bs.drop(64 *i)))).toArray, .int .u64((T:Int)+(q:Int)), .bool true] W fun e w'=>e= .returned(.agg(jb(ve(hAt hs t0 bs i)(qP(bs.drop(64 *i)))(T+q)true)).toArray)∧Ext W w'):=fun W e=>Qm(t:=T+q)(last:=true)LN PL(by omega)(fun j _=>LT.out j)(HG.out W e)
    have LN1:=yg(hAt hs t0 bs i)(qP(bs.drop(64 *i)))(T+q)true
    have LT1:Hid(Lt32(ve(hAt hs t0 bs i)(qP(bs.drop(64 *i)))(T+q)true)):=LT.out.comp(by omega)true
    have hB':=hd hB
    clear MI PL LT hB hif hTm
    replace hT:=hd hT
    replace hq:=hd hq
    generalize hHI:hAt hs t0 bs i=HI at *
    generalize ve HI(qP(bs.drop(64 *i)))(T+q)true=HJ at *
    have BS:(cellsOf(qW HJ)).toArray.size=32:=by simp [ja,v9,LN1]
    have B1:=cellsOf_one(qW HJ)
    have KEEP:Hid(∀w':World,wr.grownBy w'(some w.heap.size)→Wr w'(w.heap.size+1)218 HI):=fun w' e=>(e.block(w.heap.size+1)(MI'.out.2.2.lt)(fun q=>by injection q with q;omega)).trans MI'.out.2.2
    replace hHI:=hd hHI
    go_wp2_with fail
    refine qgW(w.heap.size) [0,1,3,2,4,5,6,7] [2,4,5,6] ?_
    refine qV rfl(fun w'=>w'.heap[(w.heap.size+1)]? =some(.cells(jb HI).toArray 218(0,0)))(fun w' e=>KEEP.out w'(jj(jV(Ext.refl _).drew _)e))(.agg(jb HI).toArray)(fun w' hF=>jd rfl rfl hF rfl rfl(by rw [WS];rfl))?_
    go_frame
    repeat((first |refine qR0 ?_ |refine qS ?_);go_frame)
    refine qD fun K1 hK1=> ?_
    go_simp
    refine(Ya(hB'.out.ext MI'.out.1.drew)(by omega)).mono ?_
    rintro e w1⟨rfl,e1⟩
    refine hK1.out _ _(jV e1 _)?_
    clear hK1 K1
    try go_frame
    refine qD fun K1 hK1=> ?_
    go_simp
    refine(CALL.out _(MI'.out.1.drew.trans e1)).mono ?_
    rintro e w2⟨rfl,e2⟩
    refine hK1.out _ _(jV e2 _)?_
    clear hK1 K1
    try go_frame
    refine qD fun K1 hK1=> ?_
    go_simp
    refine(J8 LN1(fun j _=>LT1.out j)).mono ?_
    rintro e w3⟨rfl,e3⟩
    refine hK1.out _ _(jV e3 _)?_
    clear hK1 K1
    try go_frame
    have e4:Ext wr w3:=((Ext.refl _).drew.trans(e1.trans(e2.trans e3)))
    have M4:=hd(MI'.out.ext e4)
    generalize hD:(cellsOf(qW HJ)).toArray=D at *
    replace hD:=hd hD
    clear CALL e1 e2 e3 e4 MI' KEEP
    refine qD fun K1 hK1=> ?_
    refine wp_store_row _ _ _ rfl w.heap.size D rfl rfl 23 _ M4.out.2.1(by rw [BS];rfl)(by rw [BS];rfl)B1 ?_
    refine hK1.out _ _(jeu _ _ _)?_
    clear hK1 K1
    try go_frame
    repeat((first |refine qR0 ?_ |refine qS ?_);go_frame)
    refine jp ?_
    go_wp2_with fail
    (try simp only [Exit.inBlock,Exit.then])
    refine bodyPost_ret(v:= .tuple #[.agg D, .int .i64 0])?_ rfl ?_
    ·exact qj rfl _ _ w.heap.size 23 D(0,0)_ _ rfl rfl(setRow_heap _ _ _ _ _ _ M4.out.2.1)rfl rfl(by rw [BS];rfl)
    ·exact⟨by rw [HMT.out,hD.out],below_setRow M4.out.1(Nat.le_refl _)_⟩
set_option maxRecDepth 100000 in
set_option maxHeartbeats 1000000 in
theorem Qp{A:Option Addr}{m d:Nat}{ks bs:List UInt8}{w:World}(hk:ks.length=32)(h:Bs w A m d bs){tg:TypeId×Nat×Nat}(hG:Gl w tg):
  Calls Tryz.prog 114 #[.agg(cellsOf ks).toArray, .slice A m d] w fun e w'=>e= .returned(.agg(cellsOf(jC ks bs)).toArray)∧Ext w w':=by
 have hal:∀w,(zeroValue 23).run Tryz.prog w= .ok(.agg jr)w:=fun _=>by kernel_rfl
 have HL:(cellsOf(jC ks bs)).toArray.size=32:=by simp [ja,qq]
 have H1:=ji(jC ks bs)
 have KB:Hid(∀o,Bs((w.alloc(Obj.cells(cellsOf ks).toArray 23)).alloc o)(some⟨w.heap.size,0,none⟩)32 32 ks):=fun o=>(Ky.bs(Ky.boxed w hk)).ext((Ext.refl _).alloc _)
 have CALL:Hid(∀W,Ext w W→Bs W(some⟨w.heap.size,0,none⟩)32 32 ks→Calls Tryz.prog 95 #[.slice(some⟨w.heap.size,0,none⟩)32 32, .slice A m d] W fun e w'=>e= .returned(.tuple #[.agg(cellsOf(macL ks bs)).toArray, .int .i64 0])∧Ext W w'):=
  fun W e b=>Zi b(h.ext e)(by omega)(hG.kept e hG.lt)
 clear hG
 have hz0:=j7
 generalize zeros32=Z at *
 generalize(cellsOf(jC ks bs)).toArray=D at *
 generalize(cellsOf ks).toArray=KS at *
 go_enter Tryz.func114,Tryz.ntmps114
 go_wp2_with fail
 refine(CALL.out _(((Ext.refl w).alloc _).alloc _)(KB.out _)).mono ?_
 rintro e w1⟨rfl,e1⟩
 have r0:=hd((e1.block(w.heap.size+1)(by rw [je,je];omega)).trans(jK w(Obj.cells KS 23)(Obj.cells Z 23)))
 have r1:Hid(((w1.alloc(Obj.cells Z 23)).setRow w1.heap.size D).heap[w.heap.size+1]? =some(Obj.cells Z 23)):=(setRow_other _ _ _ _(Nat.ne_of_lt(jh r0.out))).trans(((Ext.refl w1).alloc _ |>.block _(jh r0.out)).trans r0.out)
 clear CALL KB
 go_wp2_with(first
  |refine wpList_store_row rfl 23 _ _ rfl w1.heap.size D rfl rfl 23 _(by with_reducible exact heap_alloc_new _ _)(by rw [HL];rfl)(by rw [HL];exact hz0)H1 ?_
  |refine wpList_load_row rfl 23 _ rfl w1.heap.size rfl 23 D(0,0)_(by with_reducible exact setRow_heap _ _ _ _ _ _(heap_alloc_new _ _))rfl rfl(by rw [HL];rfl)?_
  |refine wpList_store_row rfl 23 _ _ rfl(w.heap.size+1)D rfl rfl 23 Z(by with_reducible exact r1.out)(by rw [HL];rfl)(by rw [HL];exact hz0)H1 ?_)
 (try simp only [Exit.inBlock,Exit.then])
 refine bodyPost_ret(results_cell_row rfl _ _(w.heap.size+1)23 D(0,0)_ rfl(setRow_heap _ _ _ _ _ _ r1.out)rfl rfl(by rw [HL];rfl))rfl ?_
 exact⟨rfl,below_setRow(below_setRow(((((Ext.refl w).alloc _).alloc _).trans e1).alloc _)(Nat.le_trans(Nat.le_succ _)(Nat.le_of_lt(jh r0.out)))_)(Nat.le_succ _)_⟩
theorem jh0{w':World}{B k:Nat}{v':Value}{xs:List UInt8}(ho:w'.ownsRow B 5 1 v' k(xs.map u8v)):∃A'' c'',v'= .slice A'' k c''∧Own B w' A'' k c'' xs:=by
 rcases ho.2 with⟨hv,hn⟩ | ⟨g,cap,cur,hv,_⟩
 ·refine⟨none,0,by rw [hv,hn],?_⟩
  rw [hv] at ho
  unfold Own
  rw [show(Value.slice none k 0)= .slice none 0 0 by rw [hn]]
  exact ho
 ·refine⟨_,_,hv,?_⟩
  rw [hv] at ho
  exact ho
theorem jee{w:World}{B:Nat}{A:Option Addr}{n c:Nat}{xs ys:List UInt8}(ty:TypeId)(h:Own B w A n c xs)(hm:n+ys.length≤140737488355328)(hB:B≤w.heap.size):
  ∃A'' c'' w',(Builtin.append_ #[33,9] ty #[.slice A n c, .string(vQ ys)]).run Tryz.prog w= .ok(.slice A''(n+ys.length)c'')w'∧Own B w' A''(n+ys.length)c''(xs ++ ys)∧w.grownBy w'(Value.ownBlock(.slice A n c)):=by
 obtain⟨i,hi,hz0,hz1,hz2⟩ :=info_parts jdc
 obtain⟨v',w',hr,ho,hg,_⟩ :=Lib.run_append_own_string(P:=Tryz.prog)w B 33 9 ty 5 i Tryz.underlying33 Tryz.underlying9 hi hz0 hz1 hz2(.slice A n c)n(xs.map u8v)h(vQ ys)(by rw [Zq];unfold maxLen;omega)(by rw [Zq];exact hm)hB
 rw [Zq] at ho
 have e:xs.map u8v ++ Lib.strCells(vQ ys)=(xs ++ ys).map u8v:=by
  rw [List.map_append]
  congr 1
 rw [e] at ho
 obtain⟨A'',c'',rfl,ho'⟩ :=jh0 ho
 exact⟨A'',c'',w',hr,ho',hg⟩
theorem jbq{w:World}{o:Oper}{a:Act}{K:Act→World→Prop}{Q:Exit→Act→World→Prop}{B:Nat}{A:Option Addr}{n c:Nat}{xs ys:List UInt8}{s x:Operand}
  (ho:o.op= .call{callee:= .builtin .append,args:= #[s,x],argTypes:= #[33,9]})(hs:a.eval s= .slice A n c)(hx:a.eval x= .string(vQ ys))
  (h:Own B w A n c xs)(hm:n+ys.length≤140737488355328)(hB:B≤w.heap.size)
  (hK:∀A'' c'' w',Own B w' A''(n+ys.length)c''(xs ++ ys)→w.grownBy w'(Value.ownBlock(.slice A n c))→Below B w w'→K(a.put o.dst(.slice A''(n+ys.length)c''))w'):o.wp Tryz.prog a w K Q:=by
 obtain⟨A'',c'',w',hrun,h2,h3⟩ :=jee o.type h hm hB
 unfold Oper.wp execOp
 simp only [ho,resolve,invoke,builtin,Sem.run_bind,Sem.run_pure,Result.andThen_ok,List.map_toArray,List.map_cons,List.map_nil,hs,hx,hrun]
 exact hK A'' c'' w' h2 h3((Below.refl B w).grown h3 hB h.ge)
theorem QP{w:World}{ops:Array Oper}{rest:List Oper}{o:Oper}{a:Act}{Q:Exit→Act→World→Prop}(hgd:o.guard=none){B:Nat}{A:Option Addr}{n c:Nat}{xs ys:List UInt8}{s x:Operand}
  (ho:o.op= .call{callee:= .builtin .append,args:= #[s,x],argTypes:= #[33,9]})(hs:a.eval s= .slice A n c)(hx:a.eval x= .string(vQ ys))
  (h:Own B w A n c xs)(hm:n+ys.length≤140737488355328)(hB:B≤w.heap.size)
  (hK:∀A'' c'' w',Own B w' A''(n+ys.length)c''(xs ++ ys)→w.grownBy w'(Value.ownBlock(.slice A n c))→Below B w w'→wpList Tryz.prog ops Q rest(a.put o.dst(.slice A''(n+ys.length)c''))w'):wpList Tryz.prog ops Q(o :: rest)a w:=
 wpList_plain hgd fun _ hK'=>jbq ho hs hx h hm hB fun A'' c'' w' h2 h3 h4=>hK' _ _(hK A'' c'' w' h2 h3 h4)
theorem Bs.one(w:World)(t:TypeId)(fr:Nat×Nat)(x:UInt8):Bs(w.alloc(.cells #[.int .u8(x.toNat:Int)] t fr))(some⟨w.heap.size,0,none⟩)1 1 [x]:=
 Bs.of_list rfl(heap_alloc_new _ _)⟨rfl,by omega⟩
end
section
def jbZ(ks ps:List UInt8):Nat→List UInt8
 |0=> []
 |i+1=>jC ks(jbZ ks ps i ++ ps ++ [UInt8.ofNat(i+1)])
def jbj(ks ps:List UInt8):Nat→List UInt8
 |0=> []
 |i+1=>jbj ks ps i ++ jbZ ks ps(i+1)
theorem jg9(ks ps:List UInt8)(i:Nat):(jbZ ks ps(i+1)).length=32:=by rw [jbZ,qq]
theorem jax(ks ps:List UInt8):∀i,(jbj ks ps i).length=32 *i
 |0=>rfl
 |i+1=>by rw [jbj,List.length_append,jax ks ps i,jg9];omega
def QL(ks ps:List UInt8)(m:Nat):List UInt8:=(jbj ks ps((m+31) / 32)).take m
theorem jfa(ks ps:List UInt8):QL ks ps 32=jC ks(ps ++ [1]):=by
 unfold QL
 rw [show(32+31) / 32=0+1 from rfl,jbj,jbj,jbZ,jbZ]
 simp only [List.nil_append,Nat.zero_add]
 rw [List.take_of_length_le(by rw [qq];omega)]
 rfl
def jM(ks ps:List UInt8):List UInt8:=jC ks(ps ++ [1])
theorem jR(ks ps:List UInt8):(jM ks ps).length=32:=macL_len _ _
end
end Go.Proofs.YtakpgbaijkhpmaaGreatDoor
