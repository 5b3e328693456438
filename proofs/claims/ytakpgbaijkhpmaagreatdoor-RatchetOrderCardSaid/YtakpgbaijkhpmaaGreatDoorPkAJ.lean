import Derived.Test.YtakpgbaijkhpmaaGreatDoorPkAI
import Derived.Test.YtakpgbaijkhpmaaGreatDoorPkAA
import Derived.Deep.DeepCutAuto
import Derived.RegionTactic
import Derived.Test.YtakpgbaijkhpmaaGreatDoorPkAH
import Derived.Great.FillDense
import Derived.Test.YtakpgbaijkhpmaaGreatDoorPkAB
namespace Go.Proofs.YtakpgbaijkhpmaaGreatDoor
section
open Go.ChangeShapes Go.WideShapes Go.ChangeAt Go.RowKit Go.Deep
def jhu:List Nat:= [1634760805,857760878,2036477234,1797285236]
def Jw(xs:List UInt8)(i:Nat):Nat:=vD((xs.drop(4 *i)).take 4)
def Yo(ks ns:List UInt8)(n:Nat):List Nat:=jhu ++(List.range 8).map(Jw ks)++ [n] ++(List.range 3).map(Jw ns)
def Jc:List Nat:=jhu ++ List.replicate 12 0
theorem jaS(ks ns:List UInt8)(n:Nat):(Yo ks ns n).length=16:=by simp [Yo,fourL]
theorem jkQ{xs ys:List Nat}(h:xs.length=ys.length)(hb:∀j,j < xs.length→wd xs j=wd ys j):xs=ys:=by
 refine List.ext_getElem h fun j h1 h2=> ?_
 have:=hb j h1
 simpa [wd,List.getD,h1,h2] using this
theorem jgM{vs:List Nat}{ks ns:List UInt8}{n:Nat}(hl:vs.length=16)(F0:∀j,j < 4→wd vs j=wd Jc j)(F1:∀j,j < 8→wd vs(4+j)=Jw ks j)(F2:wd vs 12=n)(F3:∀j,j < 3→wd vs(13+j)=Jw ns j):vs=Yo ks ns n:=by
 refine jkQ(hl.trans(jaS _ _ _).symm)fun j hj=> ?_
 have h:j=0∨j=1∨j=2∨j=3∨j=4∨j=5∨j=6∨j=7∨j=8∨j=9∨j=10∨j=11∨j=12∨j=13∨j=14∨j=15:=by omega
 rcases h with rfl |rfl |rfl |rfl |rfl |rfl |rfl |rfl |rfl |rfl |rfl |rfl |rfl |rfl |rfl |rfl
 ·exact(F0 0(by omega)).trans rfl
 ·exact(F0 1(by omega)).trans rfl
 ·exact(F0 2(by omega)).trans rfl
 ·exact(F0 3(by omega)).trans rfl
 ·exact(F1 0(by omega)).trans rfl
 ·exact(F1 1(by omega)).trans rfl
 ·exact(F1 2(by omega)).trans rfl
 ·exact(F1 3(by omega)).trans rfl
 ·exact(F1 4(by omega)).trans rfl
 ·exact(F1 5(by omega)).trans rfl
 ·exact(F1 6(by omega)).trans rfl
 ·exact(F1 7(by omega)).trans rfl
 ·exact F2.trans rfl
 ·exact(F3 0(by omega)).trans rfl
 ·exact(F3 1(by omega)).trans rfl
 ·exact(F3 2(by omega)).trans rfl
theorem jdu(xs:List UInt8)(i:Nat):Jw xs i < 4294967296:=by
 have h:=Yd((xs.drop(4 *i)).take 4)
 have hl:((xs.drop(4 *i)).take 4).length≤4:=by simp;omega
 exact Nat.lt_of_lt_of_le h(Nat.le_trans(Nat.pow_le_pow_right(by omega)hl)(by decide))
theorem jfX{w:World}{g k n:Nat}{t:TypeId}(ht:Tryz.prog.underlying t=some(.array(Tryz.prog.arrayLen t)(Tryz.prog.elem t)))(hs:∀w,(sizeOf(Tryz.prog.elem t)).run Tryz.prog w= .ok 1 w)(hn:Tryz.prog.arrayLen t=n)(hk:4 *k+4≤n):
  (Instr.sliceAt t(.pointer(some⟨g,0,none⟩))(some(.int .i64(4 *(k:Int))))(some(.int .i64(4 *(k:Int)+4)))(some(.int .i64(4 *(k:Int)+4)))).run Tryz.prog w= .ok(.slice(some⟨g,4 *k,none⟩)4 4)w:=by
 rw [run_sliceAt_array_lhm w t _ ht .i64 .i64 .i64 _ _ _(by omega)(by omega)(by omega)(by rw [hn];omega)]
 rw [hs]
 have h1:(4 *(k:Int)).toNat=4 *k:=by omega
 have h2:(4 *(k:Int)+4).toNat=4 *k+4:=by omega
 have h3:(⟨g,0,none⟩:Addr).add(4 *k *1)=⟨g,4 *k,none⟩ :=by unfold Addr.add;split <;> simp_all
 show Result.ok(slicedAt _ _ _ _ _)w=_
 rw [h1,h2]
 unfold slicedAt
 rw [if_neg(by omega),h3,show 4 *k+4 - 4 *k=4 by omega]
def Sw(w wr:World)(ks ns:List UInt8)(vs:List Nat):Prop:=
 Ext w wr∧wr.heap[w.heap.size]? =some(.cells(cellsOf ks).toArray 23(0,0))∧wr.heap[w.heap.size+1]? =some(.cells(cellsOf ns).toArray 212(0,0))∧Wr wr(w.heap.size+1+1)246(List.replicate 16 0)∧Wr wr(w.heap.size+1+1+1)246 vs
theorem Sw.setV{w wr:World}{ks ns:List UInt8}{vs:List Nat}(h:Sw w wr ks ns vs)(k x:Nat):Sw w(wr.setCell⟨w.heap.size+1+1+1,k,none⟩(.int .u32(x:Int)))ks ns(vs.set k x):=by
 obtain⟨e,a,b,c,d⟩ :=h
 have hb:Below(w.heap.size+1+1+1)wr(wr.setCell⟨w.heap.size+1+1+1,k,none⟩(.int .u32(x:Int))):=Below.setCell(p:=⟨w.heap.size+1+1+1,k,none⟩)(Below.refl(w.heap.size+1+1+1)wr)(Nat.le_refl _)_
 exact⟨Below.trans e(hb.mono(by omega)),(hb.block _(by omega)).trans a,(hb.block _(by omega)).trans b,c.kept hb(by omega),d.set⟩
theorem jhz(w:World)(o1 o2 o3 o4:Obj):((((w.alloc o1).alloc o2).alloc o3).alloc o4).heap[w.heap.size]? =some o1:=by
 rw [Below.heap_alloc _ _ _(by rw [size_alloc,je,je];omega)]
 exact jF w o1 o2 o3
theorem jhA(w:World)(o1 o2 o3 o4:Obj):((((w.alloc o1).alloc o2).alloc o3).alloc o4).heap[w.heap.size+1]? =some o2:=by
 rw [Below.heap_alloc _ _ _(by rw [size_alloc,je,je];omega)]
 exact jH w o1 o2 o3
theorem jhB(w:World)(o1 o2 o3 o4:Obj):((((w.alloc o1).alloc o2).alloc o3).alloc o4).heap[w.heap.size+1+1]? =some o3:=by
 rw [Below.heap_alloc _ _ _(by rw [size_alloc,je,je];omega)]
 exact jB w o1 o2 o3
theorem jda(w:World)(o1 o2 o3 o4:Obj):((((w.alloc o1).alloc o2).alloc o3).alloc o4).heap[w.heap.size+1+1+1]? =some o4:=by
 have:=jB(w.alloc o1)o2 o3 o4
 rwa [je] at this
set_option maxRecDepth 100000 in
set_option maxHeartbeats 2000000 in
theorem jd0{ks ns:List UInt8}{n:Nat}{w:World}(hk:ks.length=32)(hn:ns.length=12)(hN:n < 4294967296):
  Calls Tryz.prog 167 #[.agg(cellsOf ks).toArray, .agg(cellsOf ns).toArray, .int .u32(n:Int)] w fun e w'=>e= .returned(.agg(jb(Yo ks ns n)).toArray)∧Ext w w':=by
 have BL:=wcells_size(show Jc.length=16 from rfl)
 have B1:=wcells_one Jc
 have hal:∀w,(zeroValue 246).run Tryz.prog w= .ok(.agg(jb(List.replicate 16 0)).toArray)w:=fun _=>by kernel_rfl
 have ZL:=wcells_size(show(List.replicate 16 0).length=16 from rfl)
 have SW0:Hid(Sw w(((((w.alloc(Obj.cells(cellsOf ks).toArray 23)).alloc(Obj.cells(cellsOf ns).toArray 212)).alloc(Obj.cells(jb(List.replicate 16 0)).toArray 246)).alloc(Obj.cells(jb(List.replicate 16 0)).toArray 246)).setRow(w.heap.size+1+1+1)(jb Jc).toArray)ks ns Jc):=
  ⟨below_setRow(((((Ext.refl w).alloc _).alloc _).alloc _).alloc _)(by omega)_,(setRow_other _ _ _ _(by omega)).trans(jhz _ _ _ _ _),(setRow_other _ _ _ _(by omega)).trans(jhA _ _ _ _ _),(setRow_other _ _ _ _(by omega)).trans(heap_a42 _ _ _ _ _),setRow_heap _ _ _ _ _ _(jda _ _ _ _ _)⟩
 have h3:Hid(∀o1 o2 o3,((((w.alloc o1).alloc o2).alloc o3).alloc(Obj.cells(jb(List.replicate 16 0)).toArray 246)).heap[w.heap.size+1+1+1]? =some(Obj.cells(jb(List.replicate 16 0)).toArray 246)):=fun o1 o2 o3=>jda _ _ _ _ _
 generalize hZ:(wcells(List.replicate 16 0)).toArray=Z at *
 replace hZ:=hd hZ
 go_enter Tryz.func167,Tryz.ntmps167
 go_upto_region 2 with(first
  |(refine jm rfl _ _ rfl(jb Jc).toArray(by kernel_rfl)?_;go_frame)
  |(refine wpList_store_row rfl 246 _ _ rfl(w.heap.size+1+1+1)(jb Jc).toArray rfl rfl 246 _(by with_reducible exact h3.out _ _ _)(by rw [BL];rfl)(by rw [BL];exact ZL)B1 ?_;go_frame))
 refine jg(fun W=>Sw w W ks ns baseL)SW0.out ?_
 clear SW0 h3 hal B1 BL ZL
 rintro w0 S0
 go_wp2_with fail
 go_loopw [11](fun i wr=>∃(k:Nat)(vs:List Nat),k≤8∧i= .int .i64 k∧vs.length=16∧(∀j,j < 4→wd vs j=wd Jc j)∧(∀j,j < k→wd vs(4+j)=Jw ks j)∧Sw w wr ks ns vs)(fun i _=>8 - (intOf i).toNat)
 case atStart=>exact⟨0,Jc,Nat.zero_le _,rfl,rfl,fun _ _=>rfl,fun j hj=>absurd hj(by omega),S0⟩
 case round =>
  obtain⟨k,vs,hk8,rfl,hl,F0,F1,SK⟩ :=hrel
  clear S0
  by_cases hlt:k < 8
  ·have hK:=SK.2.1
   have g3:=SK.2.2.2.2.cell(i:=4+k)(by omega)
   have g4:=SK.2.2.2.2.frozen(4+k)
   have ik:(k:Int) < 8:=by omega
   have jk:(4:Int)+(k:Int) < 16:=by omega
   have hsl:=fun w':World=>jfX(w:=w')(g:=w.heap.size)(k:=k)(t:=23)rfl(fun _=>rfl)rfl(show 4 *k+4≤32 by omega)
   have HC:=hd(ja4(Bs.part hK(o:=4 *k)(n:=4)(c:=4)(by omega)(by omega)(by omega)))
   replace SK:=hd SK
   replace F0:=hd F0
   replace F1:=hd F1
   clear hK
   go_wp2_with fail
   refine HC.out.mono ?_
   rintro e w1⟨rfl,rfl⟩
   go_wp2_with fail
   refine⟨⟨k+1,vs.set(4+k)(Jw ks k),by omega,by go_num,by rw [List.length_set];exact hl,fun j hj=> ?_,fun j hj=> ?_,SK.out.setV _ _⟩,by simp [intOf];omega⟩
   ·rw [j8(by omega),if_neg(by omega)];exact F0.out j hj
   ·rw [j8(by omega)]
    by_cases q:j=k
    ·rw [if_pos(by omega),q]
    ·rw [if_neg(by omega)];exact F1.out j(by omega)
  ·obtain rfl:k=8:=by omega
   rw [show((8:Nat):Int)=8 from rfl]
   have g3:=SK.2.2.2.2.cell(i:=12)(by omega)
   have g4:=SK.2.2.2.2.frozen 12
   go_upto_region 8 with(fail)
   refine wp_gen(fun W=>∃vs:List Nat,vs.length=16∧(∀j,j < 4→wd vs j=wd Jc j)∧(∀j,j < 8→wd vs(4+j)=Jw ks j)∧wd vs 12=n∧Sw w W ks ns vs)⟨vs.set 12 n,by rw [List.length_set];exact hl,fun j hj=>by rw [j8(by omega),if_neg(by omega)];exact F0 j hj,fun j hj=>by rw [j8(by omega),if_neg(by omega)];exact F1 j hj,by rw [j8(by omega),if_pos rfl],SK.setV _ _⟩?_
   clear g3 g4 SK F0 F1 hl
   clear vs
   rintro w2⟨vs0,hl0,F00,F10,F20,S2⟩
   go_wp2_with fail
   go_loopw [30](fun i wr=>∃(k:Nat)(vs:List Nat),k≤3∧i= .int .i64 k∧vs.length=16∧(∀j,j < 4→wd vs j=wd Jc j)∧(∀j,j < 8→wd vs(4+j)=Jw ks j)∧wd vs 12=n∧(∀j,j < k→wd vs(13+j)=Jw ns j)∧Sw w wr ks ns vs)(fun i _=>3 - (intOf i).toNat)
   case atStart=>exact⟨0,vs0,Nat.zero_le _,rfl,hl0,F00,F10,F20,fun j hj=>absurd hj(by omega),S2⟩
   case round =>
    obtain⟨k,vs,hk3,rfl,hl,F0,F1,F2,F3,SK⟩ :=hrel
    clear S2 hl0 F00 F10 F20
    by_cases hlt:k < 3
    ·have hK:=SK.2.2.1
     have g3:=SK.2.2.2.2.cell(i:=13+k)(by omega)
     have g4:=SK.2.2.2.2.frozen(13+k)
     have ik:(k:Int) < 3:=by omega
     have jk:(13:Int)+(k:Int) < 16:=by omega
     have hsl:=fun w':World=>jfX(w:=w')(g:=(w.heap.size+1))(k:=k)(t:=212)rfl(fun _=>rfl)rfl(show 4 *k+4≤12 by omega)
     have HC:=hd(ja4(Bs.part hK(o:=4 *k)(n:=4)(c:=4)(by omega)(by omega)(by omega)))
     replace SK:=hd SK
     replace F0:=hd F0
     replace F1:=hd F1
     replace F2:=hd F2
     replace F3:=hd F3
     clear hK
     go_wp2_with fail
     refine HC.out.mono ?_
     rintro e w1⟨rfl,rfl⟩
     go_wp2_with fail
     refine⟨⟨k+1,vs.set(13+k)(Jw ns k),by omega,by go_num,by rw [List.length_set];exact hl,fun j hj=> ?_,fun j hj=> ?_,?_,fun j hj=> ?_,SK.out.setV _ _⟩,by simp [intOf];omega⟩
     ·rw [wd_set(by omega),if_neg(by omega)];exact F0.out j hj
     ·rw [wd_set(by omega),if_neg(by omega)];exact F1.out j hj
     ·rw [wd_set(by omega),if_neg(by omega)];exact F2.out
     ·rw [wd_set(by omega)]
      by_cases q:j=k
      ·rw [if_pos(by omega),q]
      ·rw [if_neg(by omega)];exact F3.out j(by omega)
    ·obtain rfl:k=3:=by omega
     have hvs:=hd(jgM hl F0 F1 F2 F3)
     have HL:=jf hl
     have hone:=wcells_one vs
     obtain⟨he,_,_,h1,h2⟩ :=SK
     unfold Wr at h1 h2
     generalize hC:(jb vs).toArray=C at h2 HL hone
     clear F0 F1 F2 F3
     replace hC:=hd hC
     replace h1:=hd h1
     replace h2:=hd h2
     go_wp2_with(first
      |refine wpList_load_row rfl 246 _ rfl(w.heap.size+1+1+1)rfl 246 C(0,0)_ h2.out rfl rfl(by rw [HL];rfl)?_
      |refine wpList_store_row rfl 246 _ _ rfl(w.heap.size+1+1)C rfl rfl 246 _ h1.out(by rw [HL];rfl)(by rw [HL];rfl)hone ?_)
     (try simp only [Exit.inBlock,Exit.then])
     refine bodyPost_ret(results_cell_row rfl _ _(w.heap.size+1+1)246 C(0,0)_ rfl(setRow_heap _ _ _ _ _ _ h1.out)rfl rfl(by rw [HL];rfl))rfl ?_
     exact⟨by rw [← hvs.out,hC.out],below_setRow he(by omega)_⟩
def drN(vs:List Nat):Nat→List Nat
 |0=>vs
 |k+1=>drL(drN vs k)
theorem jb9{vs:List Nat}(h:vs.length=16):∀k,(drN vs k).length=16
 |0=>h
 |k+1=>by rw [drN,ji0];exact jb9 h k
def jd4(us vs:List Nat):List Nat:=(List.range 16).map fun j=>qE(wd us j)(wd vs j)
theorem jaW(us vs:List Nat):(jd4 us vs).length=16:=by simp [jd4]
theorem jjP{us vs:List Nat}{j:Nat}(h:j < 16):wd(jd4 us vs)j=qE(wd us j)(wd vs j):=by simp [wd,jd4,List.getD,h]
def YT(ks ns:List UInt8)(n:Nat):List UInt8:=qW(jd4(drN(Yo ks ns n)10)(Yo ks ns n))
theorem jac(ks ns:List UInt8)(n:Nat):(YT ks ns n).length=64:=by unfold YT;rw [v9,jaW]
theorem jiC{ks ns:List UInt8}{n:Nat}(hn:n < 4294967296):∀i,i < 16→wd(Yo ks ns n)i < 4294967296:=fun j hj=>by
 have h:j=0∨j=1∨j=2∨j=3∨j=4∨j=5∨j=6∨j=7∨j=8∨j=9∨j=10∨j=11∨j=12∨j=13∨j=14∨j=15:=by omega
 rcases h with rfl |rfl |rfl |rfl |rfl |rfl |rfl |rfl |rfl |rfl |rfl |rfl |rfl |rfl |rfl |rfl
 ·exact(by decide:(1634760805:Nat) < 4294967296)
 ·exact(by decide:(857760878:Nat) < 4294967296)
 ·exact(by decide:(2036477234:Nat) < 4294967296)
 ·exact(by decide:(1797285236:Nat) < 4294967296)
 iterate 8(·exact jdu _ _)
 ·exact hn
 iterate 3(·exact jdu _ _)
def Bw(w wr:World)(f g:Nat)(S V:List Nat):Prop:=
 Ext w wr∧wr.heap[w.heap.size+1+1]? =some(.cells(cellsOf(List.replicate 64 0)).toArray 221(0,0))∧Wr wr f 246 S∧Arr wr g V∧w.heap.size+1+1 < f∧f < g
section
variable{w wr wr':World}{f g:Nat}{S V V':List Nat}
theorem Bw.ext(h:Bw w wr f g S V)(e:Ext wr wr'):Bw w wr' f g S V:=by
 obtain⟨e0,a,b,c,d⟩ :=h
 exact⟨e0.trans e,(e.block _(jh a)).trans a,b.kept e b.lt,c.ext e,d⟩
theorem Bw.grow(h:Bw w wr f g S V)(e:wr.grownBy wr'(some g))(a:Arr wr' g V'):Bw w wr' f g S V':=by
 obtain⟨e0,h1,h2,h3,h4,h5⟩ :=h
 have bl:∀i o,wr.heap[i]? =some o→i≠g→wr'.heap[i]? =some o:=fun i o hi hne=>(e.block i(jh hi)(fun q=>by injection q with q;exact hne q)).trans hi
 exact⟨Below.trans e0⟨e.os,e.tape,e.output,e.size,fun i hi=>e.block i(Nat.lt_of_lt_of_le hi e0.size)(fun q=>by injection q with q;omega)⟩,bl _ _ h1(by omega),bl _ _ h2(by omega),a,h4,h5⟩
end
set_option maxRecDepth 100000 in
set_option maxHeartbeats 2000000 in
theorem jc0{ks ns:List UInt8}{n:Nat}{w:World}(hk:ks.length=32)(hn:ns.length=12)(hN:n < 4294967296):
  Calls Tryz.prog 148 #[.agg(cellsOf ks).toArray, .agg(cellsOf ns).toArray, .int .u32(n:Int)] w fun e w'=>e= .returned(.agg(cellsOf(YT ks ns n)).toArray)∧Ext w w':=by
 have KS:(cellsOf ks).toArray.size=32:=by simp [ja,hk]
 have NS:(cellsOf ns).toArray.size=12:=by simp [ja,hn]
 have hal:∀w,(zeroValue 221).run Tryz.prog w= .ok(.agg(cellsOf(List.replicate 64 0)).toArray)w:=fun _=>by kernel_rfl
 have hal2:∀w,(zeroValue 246).run Tryz.prog w= .ok(.agg(jb(List.replicate 16 0)).toArray)w:=fun _=>by kernel_rfl
 have ZL:=wcells_size(show(List.replicate 16 0).length=16 from rfl)
 have START:Hid(∀W,Calls Tryz.prog 167 #[.agg(cellsOf ks).toArray, .agg(cellsOf ns).toArray, .int .u32(n:Int)] W fun e w'=>e= .returned(.agg(jb(Yo ks ns n)).toArray)∧Ext W w'):=fun W=>start_calls hk hn hN
 have SL:=startL_len ks ns n
 have SLT:=hd(jiC(ks:=ks)(ns:=ns)hN)
 have hBL:Hid(YT ks ns n=qW(jd4(drN(Yo ks ns n)10)(Yo ks ns n))):=rfl
 generalize Yo ks ns n=S at *
 have SS:=wcells_size SL
 have S1:=wcells_one S
 have q0:Hid(∀o2 o3,(((w.alloc(Obj.cells(cellsOf ks).toArray 23)).alloc o2).alloc o3).heap[w.heap.size]? =some(Obj.cells(cellsOf ks).toArray 23)):=fun o2 o3=>jF _ _ _ _
 have q1:Hid(∀o1 o3,(((w.alloc o1).alloc(Obj.cells(cellsOf ns).toArray 212)).alloc o3).heap[w.heap.size+1]? =some(Obj.cells(cellsOf ns).toArray 212)):=fun o1 o3=>jH _ _ _ _
 have q2:Hid(∀o1 o2,(((w.alloc o1).alloc o2).alloc(Obj.cells(cellsOf(List.replicate 64 0)).toArray 221)).heap[w.heap.size+1+1]? =some(Obj.cells(cellsOf(List.replicate 64 0)).toArray 221)):=fun o1 o2=>jB _ _ _ _
 generalize hZ:(wcells(List.replicate 16 0)).toArray=Z at *
 replace hZ:=hd hZ
 generalize hO:List.replicate 64(0:UInt8)=O at *
 replace hO:=hd hO
 go_enter Tryz.func148,Tryz.ntmps148
 go_wp2_with(first
  |(refine wpList_load_row rfl 23 _ rfl w.heap.size rfl 23(cellsOf ks).toArray(0,0)_(by with_reducible exact q0.out _ _)rfl rfl(by rw [KS];rfl)?_;go_frame)
  |(refine wpList_load_row rfl 212 _ rfl(w.heap.size+1)rfl 212(cellsOf ns).toArray(0,0)_(by with_reducible exact q1.out _ _)rfl rfl(by rw [NS];rfl)?_;go_frame))
 refine(START.out _).mono ?_
 rintro e w1⟨rfl,e1⟩
 have E1:Hid(Ext w w1):=(((((Ext.refl w).alloc _).alloc _).alloc _).trans e1)
 have R1:=hd((e1.block(w.heap.size+1+1)(by rw [je,je,je];omega)).trans(q2.out _ _))
 clear q0 q1 q2 e1 START
 go_upto_region 2 with(refine wpList_store_row rfl 246 _ _ rfl w1.heap.size(jb S).toArray rfl rfl 246 _(by with_reducible exact heap_alloc_new _ _)(by rw [SS];rfl)(by rw [SS];exact ZL)S1 ?_;go_frame)
 refine jg(fun W=>Ext w W∧W.heap[w.heap.size+1+1]? =some(Obj.cells(cellsOf O).toArray 221(0,0))∧Wr W w1.heap.size 246 S∧w.heap.size+1+1 < w1.heap.size)⟨E1.out.trans(below_setRow((Ext.refl w1).alloc _)(Nat.le_refl _)_),((below_setRow((Ext.refl w1).alloc _)(Nat.le_refl _)_:Ext w1 _).block _(jh R1.out)).trans R1.out,setRow_heap _ _ _ _ _ _(heap_alloc_new _ _),jh R1.out⟩?_
 rintro w2⟨E2,R2,F2,hf⟩
 replace E2:=hd E2
 replace R2:=hd R2
 unfold Wr at F2
 replace F2:=hd F2
 clear E1 R1
 obtain⟨f,hf0⟩:∃f,f=w1.heap.size:=⟨_,rfl⟩
 rw [← hf0] at F2 hf ⊢
 clear hf0
 go_upto_region 3 with(first
  |(refine wpList_load_row rfl 246 _ rfl f rfl 246(jb S).toArray(0,0)_ F2.out rfl rfl(by rw [SS];rfl)?_;go_frame)
  |(refine wpList_store_row rfl 246 _ _ rfl w2.heap.size(jb S).toArray rfl rfl 246 _(by with_reducible exact heap_alloc_new _ _)(by rw [SS];rfl)(by rw [SS];exact ZL)S1 ?_;go_frame))
 refine jg(fun W=>Bw w W f w2.heap.size S S)⟨E2.out.trans(below_setRow((Ext.refl w2).alloc _)(Nat.le_refl _)_),?_,?_,Wr.arr(t:=246)(setRow_heap _ _ _ _ _ _(heap_alloc_new _ _))(fun i hi=>SLT.out i(by omega)),hf,jh F2.out⟩?_
 ·rw [hO.out]
  exact((below_setRow((Ext.refl w2).alloc _)(Nat.le_refl _)_:Ext w2 _).block _(jh R2.out)).trans R2.out
 ·exact((below_setRow((Ext.refl w2).alloc _)(Nat.le_refl _)_:Ext w2 _).block _(jh F2.out)).trans F2.out
 clear R2 F2
 rintro w3 B3
 obtain⟨g,hg0⟩:∃g,g=w2.heap.size:=⟨_,rfl⟩
 rw [← hg0] at B3 ⊢
 clear hg0 E2
 go_wp2_with fail
 go_loopw [16](fun i wr=>∃k:Nat,k≤10∧i= .int .i64 k∧Bw w wr f g S(drN S k))(fun i _=>10 - (intOf i).toNat)
 case atStart=>exact⟨0,Nat.zero_le _,rfl,B3⟩
 case round =>
  obtain⟨k,hk10,rfl,BK⟩ :=hrel
  clear B3
  by_cases hlt:k < 10
  ·have DR:=hd(jhk BK.2.2.2.1(drN_len SL k))
   replace BK:=hd BK
   go_wp2_with fail
   refine DR.out.mono ?_
   rintro e w4⟨rfl,A4,G4⟩
   go_wp2_with fail
   exact⟨⟨k+1,by omega,by go_num,BK.out.grow G4 A4⟩,by simp [intOf];omega⟩
  ·obtain rfl:k=10:=by omega
   rw [show((10:Nat):Int)=10 from rfl]
   generalize hV:drN S 10=V at *
   have VL:V.length=16:=by rw [← hV];exact jb9 SL 10
   replace hV:=hd hV
   have VLT:Hid(∀j,j < 16→wd V j < 4294967296):=fun j hj=>(BK.2.2.2.1.2 j(by omega)).2.2
   replace BK:=hd BK
   go_upto_region 8 with(fail)
   refine wp_gen(fun W=>Bw w W f g S V∧W.heap[wr.heap.size]? =some(.cells(cellsOf O).toArray 221(0,0))∧g < wr.heap.size)⟨BK.out.ext((Ext.refl _).alloc _),heap_alloc_new _ _,BK.out.2.2.2.1.1⟩?_
   obtain⟨o,ho0⟩:∃o,o=wr.heap.size:=⟨_,rfl⟩
   rw [← ho0]
   clear ho0 BK
   rintro w5⟨B5,O5,hgo⟩
   have OL:O.length=64:=by rw [← hO.out];simp
   go_wp2_with fail
   go_loopw [20](fun i wr=>∃(k:Nat)(xs:List UInt8),k≤16∧i= .int .i64 k∧xs.length=64∧(∀j,j < 4 *k→bt xs j=bt(qW(jd4 V S))j)∧Bw w wr f g S V∧wr.heap[o]? =some(.cells(cellsOf xs).toArray 221(0,0)))(fun i _=>16 - (intOf i).toNat)
   case atStart=>exact⟨0,O,Nat.zero_le _,rfl,OL,fun j hj=>absurd hj(by omega),B5,O5⟩
   case round =>
    obtain⟨k,xs,hk16,rfl,hl,hv,BK,h2⟩ :=hrel
    clear B5 O5
    by_cases hlt:k < 16
    ·have hsl:=fun w':World=>je4(w:=w')(g:=o)(k:=k)(t:=221)rfl(fun _=>rfl)rfl(show 4 *k < 64 by omega)
     have a1:=VLT.out k hlt
     have a2:=SLT.out k hlt
     have m0:(k:Int) < 16:=by omega
     have m1:IntKind.i64.wrap(4 *(k:Int))=4 *(k:Int):=IntWalk.i64_in _(by omega)
     have m2:IntKind.u32.wrap((wd V k:Int)+(wd S k:Int))=(qE(wd V k)(wd S k):Int):=u32_add
     have al:=q9(wd V k)(wd S k)
     have m3:IntKind.u64.wrap(qE(wd V k)(wd S k):Int)=(qE(wd V k)(wd S k):Int):=IntWalk.u64_in _(by omega)
     have LOW:=hd(fun w0:World=>Zh(n:=qE(wd V k)(wd S k))(m:=4)(many:=4)(w:=w0)(by omega)(by omega)(by omega)(by omega)(by decide))
     have KEEP:Hid(∀w',Below o wr w'→w'.cell?⟨g,k,none⟩=some(.int .u32(wd V k:Int))∧w'.cell?⟨f,k,none⟩=some(.int .u32(wd S k:Int))):=fun w' e=>⟨(e.cell(p:=⟨g,k,none⟩)(by show g < o;omega)).trans(BK.2.2.2.1.fct(by omega)).1,(e.cell(p:=⟨f,k,none⟩)(by show f < o;have:=BK.2.2.2.2.2;omega)).trans(BK.2.2.1.cell(by omega))⟩
     have osz:o < wr.heap.size:=jh h2
     replace h2:=hd h2
     replace hv:=hd hv
     replace BK:=hd BK
     go_wp2_with fail
     refine qgB o [0,1,2,3,4,5,6,7,8,9,10,11,12] [11,12] ?_
     repeat((first |refine qR _(fun w' e=>KEEP.out w'(Below.trans(Below.refl _ _).drew e))?_ |refine qS ?_);go_frame)
     refine qD fun K hK=> ?_
     go_simp
     refine(LOW.out _).mono ?_
     rintro e w1⟨A1,n1,c1,rfl,b1,e1⟩
     refine hK.out _ _(e1.mono(Nat.le_of_lt osz))?_
     clear hK K
     try go_frame
     repeat((first |refine qR0 ?_ |refine qS ?_);go_frame)
     refine qD fun K hK=> ?_
     go_simp
     have hn1:n1=4:=by have:=b1.len;rw [lowL_len] at this;omega
     subst hn1
     refine JZ(cur:=cellsOf xs)rfl((e1.block o osz).trans h2.out)b1(by omega)(by rw [ja];omega)?_
     intro W' h3 h4
     rw [Yf] at h3
     go_simp
     refine hK.out _ _(h4.out o(Nat.le_refl _))?_
     clear hK K
     refine jp ?_
     have e2:Below o wr W':=Below.trans((Below.refl o wr).drew)(Below.trans(e1.mono(Nat.le_of_lt osz))(h4.out o(Nat.le_refl _)))
     have B6:Bw w W' f g S V:=by
      obtain⟨x1,x2,x3,x4,x5,x6⟩ :=BK.out
      refine⟨Below.trans x1(e2.mono(by omega)),(e2.block _(by omega)).trans x2,(e2.block _(by omega)).trans x3,⟨Nat.lt_of_lt_of_le x4.1 e2.size,fun i hi=> ?_⟩,x5,x6⟩
      obtain⟨y1,y2,y3⟩ :=x4.2 i hi
      exact⟨(e2.cell(p:=⟨g,i,none⟩)hgo).trans y1,(e2.frozen(p:=⟨g,i,none⟩)hgo).trans y2,y3⟩
     clear h4 m0 m1 m2 m3 hsl KEEP
     go_wp2_with fail
     refine⟨⟨k+1,splice xs(4 *k)(J3(qE(wd V k)(wd S k))4),by omega,by go_num,(jaR(by rw [vL];omega)).trans hl,fun j hj=> ?_,B6,h3.out⟩,by simp [intOf];omega⟩
     rw [jbs(by rw [vL];omega)(by rw [vL];omega)]
     by_cases q:j < 4 *k
     ·rw [if_pos q];exact hv.out j q
     ·rw [if_neg q,jb1(by omega),JK(by rw [jaW];omega),show j / 4=k by omega,show j % 4=j - 4 *k by omega,jjP hlt]
    ·obtain rfl:k=16:=by omega
     have hvs:=hd(Y0(xs:=xs)(ys:=qW(jd4 V S))(by rw [v9,jaW];omega)(fun j hj=>hv j(by omega)))
     have HS:(cellsOf xs).toArray.size=64:=by simp [ja,hl]
     have OS:(cellsOf O).toArray.size=64:=by simp [ja,OL]
     have hone:=cellsOf_one xs
     have h1:=BK.2.1
     rw [hO.out] at h1
     have he:=BK.1
     generalize hD:(cellsOf xs).toArray=D at h2 HS hone
     replace hD:=hd hD
     replace h1:=hd h1
     replace h2:=hd h2
     clear hv BK
     go_wp2_with(first
      |(refine wpList_load_row rfl 221 _ rfl o rfl 221 D(0,0)_ h2.out rfl rfl(by rw [HS];rfl)?_;go_frame)
      |(refine wpList_store_row rfl 221 _ _ rfl(w.heap.size+1+1)D rfl rfl 221 _ h1.out(by rw [HS];rfl)(by rw [HS];exact OS)hone ?_;go_frame))
     (try simp only [Exit.inBlock,Exit.then])
     refine bodyPost_ret(results_cell_row rfl _ _(w.heap.size+1+1)221 D(0,0)_ rfl(setRow_heap _ _ _ _ _ _ h1.out)rfl rfl(by rw [HS];rfl))rfl ?_
     exact⟨by rw [hBL.out,← hvs.out,hD.out],below_setRow he(by omega)_⟩
def jd8(xs ys:List UInt8):List UInt8:=List.zipWith(·^^^ ·)xs ys
theorem jbc{xs ys:List UInt8}(h:xs.length=ys.length):(jd8 xs ys).length=xs.length:=by simp [jd8,h]
theorem jfw{xs ys:List UInt8}(h:xs.length=ys.length){k:Nat}(hk:k < xs.length):bt(jd8 xs ys)k=bt xs k ^^^ bt ys k:=by
 unfold bt jd8
 simp [List.getD,List.getElem?_zipWith,hk,show k < ys.length by omega]
theorem jjN(xs ys:List UInt8)(k:Nat):bits .xor .u8(bt xs k:Int)(bt ys k:Int)=((bt xs k ^^^ bt ys k:Nat):Int):=u8_xor_nat _ _(vJ _ _)(vJ _ _)
set_option maxHeartbeats 400000 in
theorem jgX{A A':Option Addr}{n c c':Nat}{xs ys:List UInt8}{w:World}(h:Bs w A n c xs)(h':Bs w A' n c' ys)(hm:n≤281474976710656):
  Calls Tryz.prog 149 #[.slice A n c, .slice A' n c'] w(YP(jd8 xs ys)0 w):=by
 have h1:=h.le
 have h2:=h.cap
 have h3:=h'.le
 have h4:=h'.cap
 have hl:=hd(h.len.trans h'.len.symm)
 have hmk:=jhR n hm
 go_enter Tryz.func149,Tryz.ntmps149
 go_wp2
 clear hmk
 go_loopw [18](fun i wr=>∃k:Nat,k≤n∧i= .int .i64 k∧Fill w wr n k(fun j=>bt xs j ^^^ bt ys j))(fun i _=>n - (intOf i).toNat)
 case atStart=>exact⟨0,Nat.zero_le _,rfl,Fill.start _ _ _⟩
 case round =>
  obtain⟨k,hk,rfl,hf⟩ :=hrel
  by_cases hlt:k < n
  ·obtain⟨b,off,rfl,hb,hc⟩ :=h.pos(by omega)
   obtain⟨b',off',rfl,hb',hc'⟩ :=h'.pos(by omega)
   have g1:=(hf.1.cell(p:=⟨b,off+k,none⟩)hb).trans(hc k hlt)
   have g2:=(hf.1.cell(p:=⟨b',off'+k,none⟩)hb').trans(hc' k hlt)
   have g3:=hf.cell hlt
   have g4:=hf.frozen k
   have hu:=hd(jjN xs ys k)
   clear hc hc'
   go_wp2
   go_region
   go_wp2
   go_roundw
   case rel=>exact⟨k+1,by omega,by go_num,(hf.step hu.out).drew⟩
   case measure=>simp [intOf];omega
  ·obtain rfl:k=n:=by omega
   go_wp2
   go_ret2
   exact⟨_,_,_,rfl,hf.done((jbc hl.out).trans h.len)hm(fun j hj=>(jfw hl.out(by rw [h.len];exact hj)).symm),hf.1⟩
def jhF(ks ns:List UInt8)(n j:Nat):Nat:=bt(YT ks ns((n+j / 64)% 4294967296))(j % 64)
theorem ji8(ks ns:List UInt8)(n j:Nat):jhF ks ns n j < 256:=vJ _ _
def yX(ks ns:List UInt8)(n:Nat)(bs:List UInt8):List UInt8:=(List.range bs.length).map fun j=>UInt8.ofNat(bt bs j ^^^ jhF ks ns n j)
theorem yD(ks ns:List UInt8)(n:Nat)(bs:List UInt8):(yX ks ns n bs).length=bs.length:=by simp [yX]
theorem jgY{a b:Nat}(ha:a < 256)(hb:b < 256):a ^^^ b < 256:=Nat.xor_lt_two_pow(n:=8)ha hb
theorem jad{ks ns:List UInt8}{n j:Nat}{bs:List UInt8}(h:j < bs.length):bt(yX ks ns n bs)j=bt bs j ^^^ jhF ks ns n j:=by
 have:=jgY(vJ bs j)(ji8 ks ns n j)
 have e:(yX ks ns n bs).getD j 0=UInt8.ofNat(bt bs j ^^^ jhF ks ns n j):=by
  unfold yX
  rw [List.getD_eq_getElem?_getD,List.getElem?_map,List.getElem?_range h]
  rfl
 show((yX ks ns n bs).getD j 0).toNat=_
 rw [e,UInt8.toNat_ofNat']
 exact Nat.mod_eq_of_lt this
theorem jgQ{ks ns:List UInt8}{n i m:Nat}{bs ys:List UInt8}(hm:m=min(bs.length - 64 *i)64)(hi:64 *i < bs.length)(hy:ys=jd8((bs.drop(64 *i)).take m)((YT ks ns((n+i)% 4294967296)).take m)):
  (yX ks ns n bs).take(64 *i)++ ys=(turnL ks ns n bs).take(64 *(i+1)):=by
 have lb:=blockL_len ks ns((n+i)% 4294967296)
 have l1:((bs.drop(64 *i)).take m).length=m:=by simp;omega
 have l2:((YT ks ns((n+i)% 4294967296)).take m).length=m:=by simp [lb];omega
 have ly:ys.length=m:=by rw [hy,jbc(by omega),l1]
 have tl:=turnL_len ks ns n bs
 refine Y0(by simp [tl,ly];omega)fun j hj=> ?_
 have hj':j < 64 *i+m:=by simp [tl,ly] at hj;omega
 rw [YU(by omega)]
 by_cases q:j < 64 *i
 ·have:bt((yX ks ns n bs).take(64 *i)++ ys)j=bt((yX ks ns n bs).take(64 *i))j:=by
   unfold bt;simp only [List.getD];rw [List.getElem?_append_left(by simp [tl];omega)]
  rw [this,YU q]
 ·have:bt((yX ks ns n bs).take(64 *i)++ ys)j=bt ys(j - 64 *i):=by
   unfold bt;simp only [List.getD];rw [List.getElem?_append_right(by simp [tl];omega)];simp [tl,show min(64 *i)bs.length=64 *i by omega]
  rw [this,jad(by omega),hy,jfw(by omega)(by omega),YU(by omega),YU(by omega),jfv]
  unfold jhF
  rw [show 64 *i+(j - 64 *i)=j by omega,show j / 64=i by omega,show j % 64=j - 64 *i by omega]
def jj4:Value→Nat
 | .slice _ n _=>n
 |_=>0
def Tw(w wr:World)(ks ns:List UInt8):Prop:=
 Ext w wr∧wr.heap[w.heap.size]? =some(.cells(cellsOf ks).toArray 23(0,0))∧wr.heap[w.heap.size+1]? =some(.cells(cellsOf ns).toArray 212(0,0))
theorem Tw.below{w wr wr':World}{ks ns:List UInt8}(h:Tw w wr ks ns)(e:Below(w.heap.size+1+1)wr wr'):Tw w wr' ks ns:=
 ⟨Below.trans h.1(e.mono(by omega)),(e.block _(by omega)).trans h.2.1,(e.block _(by omega)).trans h.2.2⟩
theorem Tw.size{w wr:World}{ks ns:List UInt8}(h:Tw w wr ks ns):w.heap.size+1+1≤wr.heap.size:=jh h.2.2
theorem Own.lower{B B':Nat}{w:World}{A:Option Addr}{n c:Nat}{xs:List UInt8}(h:Own B w A n c xs)(hB:B'≤B):Own B' w A n c xs:=by
 refine⟨h.1,?_⟩
 rcases h.2 with h | ⟨g,cap,cur,hv,hb,r⟩
 ·exact .inl h
 ·exact .inr⟨g,cap,cur,hv,Nat.le_trans hB hb,r⟩
def YA(xs:List UInt8)(w:World)(e:Ending)(w':World):Prop:= ∃A n c,e= .returned(.slice A n c)∧Own w.heap.size w' A n c xs∧Ext w w'
set_option maxRecDepth 100000 in
set_option maxHeartbeats 2000000 in
theorem jiH{ks ns bs:List UInt8}{n:Nat}{A:Option Addr}{L c:Nat}{w:World}(hk:ks.length=32)(hn:ns.length=12)(hN:n < 4294967296)(h:Bs w A L c bs)(hL:L≤140737488355328):
  Calls Tryz.prog 117 #[.agg(cellsOf ks).toArray, .agg(cellsOf ns).toArray, .int .u32(n:Int), .slice A L c] w(YA(yX ks ns n bs)w):=by
 have h1:=h.le
 have h2:=h.cap
 have hbl:=h.len
 have KS:(cellsOf ks).toArray.size=32:=by simp [ja,hk]
 have NS:(cellsOf ns).toArray.size=12:=by simp [ja,hn]
 have hal:∀w,(zeroValue 221).run Tryz.prog w= .ok(.agg(cellsOf(List.replicate 64 0)).toArray)w:=fun _=>by kernel_rfl
 have hmk:=jhQ L(by omega)
 have hB:=hd h
 clear h
 have TW0:Hid(∀o,Tw w(((w.alloc(Obj.cells(cellsOf ks).toArray 23)).alloc(Obj.cells(cellsOf ns).toArray 212)).alloc o)ks ns):=fun o=>⟨(((Ext.refl w).alloc _).alloc _).alloc _,jF _ _ _ _,jH _ _ _ _⟩
 have OS:(cellsOf(List.replicate 64(0:UInt8))).toArray.size=64:=by simp [ja]
 generalize(cellsOf(List.replicate 64(0:UInt8))).toArray=O at *
 have OW0:Hid(∀w:World,Own w.heap.size(w.alloc(.cells(madeCells #[.int .u8 0] L)5))(some⟨w.heap.size,0,none⟩)0 L []):=fun w=>Own.made w _ _(Nat.le_refl _)(by omega)
 generalize hMC:madeCells #[.int .u8 0] L=MC at *
 clear hMC
 go_enter Tryz.func117,Tryz.ntmps117
 go_wp2_with fail
 have E2:(((w.alloc(Obj.cells(cellsOf ks).toArray 23)).alloc(Obj.cells(cellsOf ns).toArray 212)).heap.size)=w.heap.size+1+1:=by rw [je,je]
 have OW1:=hd(OW0.out((w.alloc(Obj.cells(cellsOf ks).toArray 23)).alloc(Obj.cells(cellsOf ns).toArray 212)))
 rw [E2] at OW1
 go_loopw [2,3,9](fun x y v wr=>∃(i:Nat)(A' D:Option Addr)(q c' m cc:Nat),64 *i < L+64∧x= .int .u32(((n+i)% 4294967296:Nat):Int)∧y= .slice A' q c'∧v= .slice D m cc∧q=L - 64 *i∧Bs w A' q c'(bs.drop(64 *i))∧Own(w.heap.size+1+1)wr D m cc((yX ks ns n bs).take(64 *i))∧Tw w wr ks ns)(fun _ y _ _=>jj4 y)
 case atStart =>
  refine⟨0,A,_,L,c,0,L,by omega,?_,rfl,rfl,by omega,hB.out,OW1.out,TW0.out _⟩
  rw [Nat.add_zero,Nat.mod_eq_of_lt hN]
 case round =>
  obtain⟨i,A',D,q,c',m,cc,hi,rfl,rfl,rfl,hq,hb,ho,tw⟩ :=hrel
  clear TW0 OW0 OW1 hmk E2
  have q1:=hb.le
  have q2:=hb.cap
  have hn64:(n+i)% 4294967296 < 4294967296:=Nat.mod_lt _(by decide)
  have hml:=ho.len
  have tl:=yD ks ns n bs
  by_cases hq0:0 < q
  ·obtain⟨b,off,rfl,hbb,hbc⟩ :=hb.pos hq0
   clear hbc
   obtain⟨k,hk0⟩:∃k,k=min q 64:=⟨_,rfl⟩
   have hM:(if(64:Int) < (q:Int)then 64 else(q:Int))=(k:Int):=by split <;> omega
   have hM':(if(q:Int) < 64 then(q:Int)else 64)=(k:Int):=by split <;> omega
   have k1:k≤q:=by omega
   have k2:k≤64:=by omega
   have k3:0 < k:=by omega
   have BLK:Hid(∀W,Calls Tryz.prog 148 #[.agg(cellsOf ks).toArray, .agg(cellsOf ns).toArray, .int .u32(((n+i)% 4294967296:Nat):Int)] W fun e w'=>e= .returned(.agg(cellsOf(YT ks ns((n+i)% 4294967296))).toArray)∧Ext W w'):=fun W=>jc0 hk hn hn64
   have BLL:=jac ks ns((n+i)% 4294967296)
   have STEP:=hd(fun ys=>jgQ(ks:=ks)(ns:=ns)(n:=n)(i:=i)(m:=k)(bs:=bs)(ys:=ys)(by omega)(by omega))
   generalize YT ks ns((n+i)% 4294967296)=BK at *
   generalize hx:(n+i)% 4294967296=x at *
   have hx1:IntKind.u32.wrap((x:Int)+1)=(((n+(i+1))% 4294967296:Nat):Int):=by rw [IntKind.wrap_u32];omega
   replace hx:=hd hx
   have BKS:(cellsOf BK).toArray.size=64:=by simp [ja,BLL]
   have BK1:=ji BK
   replace hb:=hd hb
   replace ho:=hd ho
   replace tw:=hd tw
   replace hq:=hd hq
   replace hk0:=hd hk0
   replace hml:=hd hml
   clear tl hbl
   go_wp2_with(first
    |(refine wpList_load_row rfl 23 _ rfl w.heap.size rfl 23(cellsOf ks).toArray(0,0)_ tw.out.2.1 rfl rfl(by rw [KS];rfl)?_;go_frame)
    |(refine wpList_load_row rfl 212 _ rfl(w.heap.size+1)rfl 212(cellsOf ns).toArray(0,0)_ tw.out.2.2 rfl rfl(by rw [NS];rfl)?_;go_frame))
   refine(BLK.out _).mono ?_
   rintro e w1⟨rfl,e1⟩
   go_upto_region 5 with(refine wpList_store_row rfl 221 _ _ rfl w1.heap.size(cellsOf BK).toArray rfl rfl 221 _(by with_reducible exact heap_alloc_new _ _)(by rw [BKS];rfl)(by rw [BKS];exact OS)BK1 ?_;go_frame)
   refine wp_gen(fun W=>Ext wr W∧W.heap[w1.heap.size]? =some(.cells(cellsOf BK).toArray 221(0,0)))⟨e1.trans(below_setRow((Ext.refl w1).alloc _)(Nat.le_refl _)_),setRow_heap _ _ _ _ _ _(heap_alloc_new _ _)⟩?_
   rintro w2⟨e2,kb⟩
   obtain⟨g,hg0⟩:∃g,g=w1.heap.size:=⟨_,rfl⟩
   rw [← hg0] at kb ⊢
   clear hg0 e1
   have X1:=hd(((hb.out.take k1).recap(c2:=k)(Nat.le_refl _)).ext(tw.out.1.trans e2))
   have X2:Hid(Bs w2(some⟨g,0,none⟩)k k(BK.take k)):=by
    have h9:=Bs.part kb(o:=0)(n:=k)(c:=k)(by omega)(by omega)(by omega)
    rw [List.drop_zero] at h9
    exact h9
   have XOR:Hid(∀W,Ext w2 W→Calls Tryz.prog 149 #[.slice(some⟨b,off,none⟩)k k, .slice(some⟨g,0,none⟩)k k] W(YP(jd8((bs.drop(64 *i)).take k)(BK.take k))0 W)):=fun W e=>jgX(X1.out.ext e)(X2.out.ext e)(by omega)
   have kn: ¬ k=0:=by omega
   have kc:(k:Int)≤(c':Int):=by omega
   have k64:(k:Int)≤64:=by omega
   replace e2:=hd e2
   clear kb hM hM'
   refine qgE [0,1,2,3,4,5,6,7,8,9,10,11,12] [7] ?_
   repeat((first |refine qR0 ?_ |refine qS ?_);go_frame)
   refine qD fun K hK=> ?_
   go_simp
   refine(XOR.out _(Ext.refl _).drew).mono ?_
   rintro e w3⟨A3,n3,c3,rfl,b3,e3⟩
   refine hK.out _ _ e3 ?_
   clear hK K
   try go_frame
   repeat((first |refine qR0 ?_ |refine qS ?_);go_frame)
   refine seq_done ?_
   have E3:Ext wr w3:=e2.out.trans((Ext.refl _).drew.trans e3)
   have hs3:(jd8((bs.drop(64 *i)).take k)(BK.take k)).length=k:=by rw [jbc(by rw [X1.out.len,X2.out.len]),X1.out.len]
   have n3k:n3=k:=by rw [← b3.len,hs3]
   subst n3k
   have O3:=hd(ho.out.ext E3)
   have T3:=hd(tw.out.below(E3.mono tw.out.size))
   have mL:m+n3≤140737488355328:=by
    have:=hml.out
    have:=hq.out
    have:=turnL_len ks ns n bs
    have:=hB.out.len
    simp only [List.length_take] at *
    omega
   replace b3:=hd b3
   clear XOR X1 X2 e2 e3 E3 hs3
   go_wp2_with(first
    |(at_builtin;(with_reducible refine jJ rfl(B:=w.heap.size+1+1)(s:= .tmp 38)(x:= .tmp 39)rfl rfl rfl O3.out b3.out mL T3.out.size ?_);intro A4 c4 w4 o4 g4 b4;replace o4:=hd o4;replace b4:=hd b4;clear g4;go_frame)
    |((with_reducible refine ja7 rfl(x:= .tmp 41)(lo:= .tmp 42)(k:=n3)rfl rfl rfl rfl k1 q1 ?_);intro A5 hc5;have b5:=hd(hc5 _ _ hb.out);clear hc5;go_frame))
   have hq':=hq.out
   have hk':=hk0.out
   have hbl:=hB.out.len
   refine⟨⟨i+1,A5,A4,q - n3,c' - n3,m+n3,c4,by omega,congrArg(Value.int .u32)(show((n:Int)+((i:Int)+1))% 4294967296=(((n+(i+1))% 4294967296:Nat):Int)by omega),rfl,rfl,by omega,?_,?_,T3.out.below b4.out⟩,by simp only [jj4];omega⟩
   ·have h9:=b5.out
    rw [List.drop_drop] at h9
    have h8:bs.drop(64 *i+n3)=bs.drop(64 *(i+1)):=by
     by_cases q64:64≤q
     ·rw [show 64 *i+n3=64 *(i+1)by omega]
     ·rw [List.drop_of_length_le(by omega),List.drop_of_length_le(by omega)]
    rwa [h8] at h9
   ·have h9:=o4.out
    rwa [STEP.out _ rfl] at h9
  ·have hq':64 *i≥L:=by omega
   have hT:Hid((yX ks ns n bs).take(64 *i)=yX ks ns n bs):=List.take_of_length_le(by omega)
   have HO:=hd(ho.lower(B':=w.heap.size)(by omega))
   rw [hT.out] at HO
   have ht:=tw.1
   clear ho tw hb hml tl
   go_wp2_with fail
   go_ret
   exact⟨_,_,_,rfl,HO.out,ht⟩
end
section
open Go.ChangeShapes Go.WideShapes Go.ChangeAt Go.RowKit Go.Deep
set_option maxRecDepth 100000
theorem jaB{w:World}{g o:Nat}{t:TypeId}{p x q S:List UInt8}(h:w.heap[g]? =some(.cells(cellsOf S).toArray t(0,0)))(hS:S=p ++ x ++ q)(ho:p.length=o):∀j v,(cellsOf x)[j]? =some v→w.cell?⟨g,o+j,none⟩=some v:=fun j v hv=>by
 have hj:=(List.getElem?_eq_some_iff.1 hv).1
 rw [cell_of_row w g _ _ _(0,0)h,List.getElem?_toArray,hS,y6,y6]
 rw [List.getElem?_append_left(by rw [List.length_append,ja,ho];omega),List.getElem?_append_right(by rw [ja,ho];omega),ja,ho,Nat.add_sub_cancel_left]
 exact hv
theorem jcw{w:World}{g o n:Nat}{t:TypeId}{p x q S:List UInt8}(h:w.heap[g]? =some(.cells(cellsOf S).toArray t(0,0)))(hS:S=p ++ x ++ q)(ho:p.length=o)(hx:x.length=n)(hn:n≤1000000):Bs w(some⟨g,o,none⟩)n n x:=
 ⟨hx,Nat.le_refl _,by unfold maxLen;omega,fun _=>⟨g,o,rfl,jh h,fun j hj=>jaB h hS ho j _(jZ(by omega))⟩⟩
def jgv:List UInt8:=List.replicate 12 0
theorem jeF:Tryz.prog.built 212 []=some(cellsOf jgv).toArray:=by kernel_rfl
set_option maxHeartbeats 1000000 in
theorem jd2{A:Option Addr}{n c:Nat}{a t k S bs:List UInt8}{w:World}(ha:a.length=32)(hS:S=a ++ t ++ k)(h:Bs w A n c bs)(hn:n≤100000000):
  Calls Tryz.prog 82 #[.agg(cellsOf S).toArray, .slice A n c] w(YA(yX a jgv 0 bs)w):=by
 have TURN:Hid(∀W,Ext w W→Calls Tryz.prog 117 #[.agg(cellsOf a).toArray, .agg(cellsOf jgv).toArray, .int .u32 0, .slice A n c] W(YA(yX a jgv 0 bs)W)):=fun W e=>jiH(n:=0)ha rfl(by omega)(h.ext e)(by omega)
 have hb:=jeF
 generalize jgv=nn at *
 have KA:(cellsOf a).length=32:=by rw [ja,ha]
 have R0:Hid(∀j v,(cellsOf a)[j]? =some v→(w.alloc(Obj.cells(cellsOf S).toArray 174)).cell?⟨w.heap.size,0+j,none⟩=some v):=jaB(p:= [])(q:=t ++ k)(heap_alloc_new _ _)(by rw [hS];simp)rfl
 have h1:=h.le
 have h2:=h.cap
 clear h hS
 go_enter Tryz.func82,Tryz.ntmps82
 go_wp2_with(first
  |(refine vP rfl(jy(ys:=cellsOf a)(g:=w.heap.size)(off:=0)rfl rfl R0.out rfl rfl(by rw [KA];rfl))?_;go_frame)
  |(refine jm rfl _ _ rfl(cellsOf nn).toArray(by simp only [List.map_toArray,List.map_nil];exact hb)?_;go_frame))
 refine(TURN.out _((Ext.refl w).alloc _)).mono ?_
 rintro e w1⟨A1,n1,c1,rfl,b1,e1⟩
 go_wp2_with fail
 go_ret
 exact⟨_,_,_,rfl,b1.lower(by rw [je];omega),((Ext.refl w).alloc _).trans e1⟩
end
section
open Go.ChangeShapes Go.WideShapes Go.ChangeAt Go.RowKit Go.Deep
def Rw(w:World)(A:Option Addr)(n c:Nat)(l:List(List UInt8)):Prop:=
 l.length=n∧n≤c∧c≤maxLen∧(0 < n→∃b off,A=some⟨b,off,none⟩∧b < w.heap.size∧∀j,j < n→∃A' n' c',w.cell?⟨b,off+j,none⟩=some(.slice A' n' c')∧Bs w A' n' c'(l.getD j []))
section
variable{w w':World}{A:Option Addr}{n c:Nat}{l:List(List UInt8)}
theorem Rw.len(h:Rw w A n c l):l.length=n:=h.1
theorem Rw.le(h:Rw w A n c l):n≤c:=h.2.1
theorem Rw.cap(h:Rw w A n c l):c≤9223372036854775807:=h.2.2.1
theorem Rw.pos(h:Rw w A n c l)(hn:0 < n):∃b off,A=some⟨b,off,none⟩∧b < w.heap.size∧∀j,j < n→∃A' n' c',w.cell?⟨b,off+j,none⟩=some(.slice A' n' c')∧Bs w A' n' c'(l.getD j []):=h.2.2.2 hn
theorem Rw.ext(h:Rw w A n c l)(he:Ext w w'):Rw w' A n c l:=
 ⟨h.1,h.2.1,h.2.2.1,fun hn=>by
  obtain⟨b,off,e,hb,hc⟩ :=h.2.2.2 hn
  refine⟨b,off,e,Nat.lt_of_lt_of_le hb he.size,fun j hj=> ?_⟩
  obtain⟨A',n',c',h1,h2⟩ :=hc j hj
  exact⟨A',n',c',(he.cell hb).trans h1,h2.ext he⟩⟩
end
def jgE(x:List UInt8):List UInt8:=(J3 x.length 4).reverse ++ x
def qw(l:List(List UInt8)):List UInt8:=l.flatMap jgE
theorem jaM(x:List UInt8):(jgE x).length=4+x.length:=by simp [jgE,vL]
theorem Qs{l:List(List UInt8)}{k:Nat}(h:k < l.length):qw(l.take(k+1))=qw(l.take k)++ jgE(l.getD k []):=by
 unfold qw
 rw [List.take_succ_eq_append_getElem h,List.flatMap_append]
 simp [List.getD,h]
theorem za{l:List(List UInt8)}{k:Nat}(h:k < l.length):(joinL(l.take(k+1))).length=(qw(l.take k)).length+(4+(l.getD k []).length):=by
 rw [Qs h,List.length_append,jaM]
theorem QG(l:List(List UInt8))(k:Nat):(qw(l.take k)).length≤(qw l).length:=by
 have:qw l=qw(l.take k)++ qw(l.drop k):=by unfold qw;rw [← List.flatMap_append,List.take_append_drop]
 rw [this,List.length_append]
 omega
def qu(l:List(List UInt8))(k:Nat):Nat:=(qw(l.take k)).length
set_option maxHeartbeats 1000000 in
theorem jam{A:Option Addr}{n c:Nat}{l:List(List UInt8)}{w:World}(h:Rw w A n c l)(hm:(qw l).length≤100000000):
  Calls Tryz.prog 79 #[.slice A n c] w(Qw(qw l)w):=by
 have h1:=h.le
 have h2:=h.cap
 have hsz:Hid(qu l n=(qw l).length):=by unfold Hid qu;rw [List.take_of_length_le(by rw [h.len];omega)]
 have hszn:qu l n≤100000000:=by rw [hsz.out];exact hm
 have hmk:=jhQ(qu l n)(by omega)
 go_enter Tryz.func79,Tryz.ntmps79
 go_wp2
 go_loop [3,11](fun x i=>∃k:Nat,k≤n∧i= .int .i64 k∧x= .int .i64(qu l k:Int))(fun _ i=>n - (intOf i).toNat)
 case atStart=>exact⟨0,Nat.zero_le _,rfl,rfl⟩
 case round =>
  obtain⟨k,hk,rfl,rfl⟩ :=hrel
  by_cases hlt:k < n
  ·obtain⟨b,off,rfl,hb,hc⟩ :=h.pos(by omega)
   obtain⟨A',n',c',g1,g2⟩ :=hc k(by omega)
   have hs:Hid((qu l k:Int)+(4+(n':Int))=(qu l(k+1):Int)):=by
    unfold Hid qu
    rw [za(by rw [h.len];omega),g2.len]
    omega
   have hb1:qu l(k+1)≤100000000:=Nat.le_trans(QG l(k+1))hm
   have hb2:n'+qu l k≤100000000:=by have:=hs.out;omega
   clear hc hmk
   go_wp2
   go_round
   case rel=>exact⟨k+1,by omega,by go_num,congrArg(Value.int .i64)hs.out⟩
   case measure=>simp [intOf];omega
  ·obtain rfl:k=n:=by omega
   go_wp2
   clear hmk
   go_loopw [6,25](fun v i wr=>∃(j cc:Nat)(D:Option Addr),j≤k∧i= .int .i64 j∧v= .slice D(qu l j)cc∧Own w.heap.size wr D(qu l j)cc(qw(l.take j))∧Ext w wr)(fun _ i _=>k - (intOf i).toNat)
   case atStart=>exact⟨0,_,_,Nat.zero_le _,rfl,rfl,Own.made w _ _(Nat.le_refl _)(by omega),(Ext.refl w).alloc _⟩
   case round =>
    obtain⟨j,cc,D,hj,rfl,rfl,ho,hE⟩ :=hrel
    by_cases hlj:j < k
    ·obtain⟨b,off,rfl,hb,hc⟩ :=h.pos(by omega)
     obtain⟨A',n',c',g1',g2⟩ :=hc j(by omega)
     have g1:=(hE.cell(p:=⟨b,off+j,none⟩)hb).trans g1'
     have t3:=g2.le
     have t4:=g2.cap
     have hszj:=hE.size
     have hb1:qu l(j+1)≤100000000:=Nat.le_trans(QG l(j+1))hm
     have hs:Hid(qu l(j+1)=qu l j+4+n'):=by
      unfold Hid qu
      rw [joinL_len_snoc(by rw [h.len];omega),g2.len]
      omega
     have hb2:n'+4+qu l j≤100000000:=by have:=hs.out;omega
     have hjn:Hid(qw(l.take(j+1))=qw(l.take j)++(J3 n' 4).reverse ++ l.getD j []):=by
      unfold Hid
      rw [joinL_snoc(by rw [h.len];omega),jgE,g2.len,List.append_assoc]
     clear hc g1'
     go_wp2_with fail
     refine(Yj(m:=4)(by omega)(by omega)(by omega)(by omega)(by omega)).mono ?_
     rintro e w1⟨A1,n1,c1,rfl,b1,e1⟩
     obtain rfl:n1=4:=by rw [← b1.len,List.length_reverse,vL]
     have hE1:=hE.trans e1
     have z1:=e1.size
     go_wp2_with(first
      |(at_builtin;refine jJ rfl(B:=w.heap.size)(s:= .tmp 29)(x:= .tmp 33)rfl rfl rfl(ho.ext e1)b1(by omega)(by omega)?_;intro D' cc' w2 ho2 hg2 hbl)
      |(at_builtin;refine jJ rfl(B:=w.heap.size)(s:= .tmp 35)(x:= .tmp 36)rfl rfl rfl ho2(g2.ext(hE1.trans' hbl))(by omega)(by have:=hbl.size;omega)?_;intro D3 cc3 w3 ho3 hg3 hbl3))
     go_roundw
     case rel=>exact⟨j+1,cc3,D3,by omega,by go_num,by rw [hs.out],by rw [hs.out,hjn.out];exact ho3,(hE1.trans' hbl).trans' hbl3⟩
     case measure=>simp [intOf];omega
    ·obtain rfl:j=k:=by omega
     go_wp2
     go_ret
     exact⟨_,_,_,rfl,by have:=ho.bs;rwa [List.take_of_length_le(by rw [h.len];omega)] at this,hE⟩
theorem jhs{K Z:Array Value}(pl:Nat→Option(Nat×Nat))(hp:pl 0=some(0,32))(hK:K.size=32)(hZ:Z.size=32):Instr.fill pl Z [(0, .agg K)]=some K:=by
 have hc:(Value.agg K).cells=K:=rfl
 simp only [Instr.fill,hp,hc,hK,hZ]
 simp only [ne_eq,not_true_eq_false,decide_false,Bool.false_or,Nat.zero_add,Nat.lt_irrefl,decide_false,Bool.false_eq_true,if_false]
 have:=Great.fill_whole(s:=32)(by omega) [Value.agg K] Z(fun v hv=>by
  simp only [List.mem_singleton] at hv
  subst hv
  exact hK)(by simp [hZ])
 simp only [List.zipIdx_cons,List.zipIdx_nil,List.map_cons,List.map_nil,List.flatMap_cons,List.flatMap_nil,List.append_nil,Instr.fill,hc,hK,hZ,Nat.zero_mul] at this
 simpa using this
end
section
open Go.ChangeShapes Go.WideShapes Go.ChangeAt Go.RowKit Go.Deep
set_option maxRecDepth 100000
theorem jbN(w:World):(zeroValue 178).run Tryz.prog w= .ok(.agg jr)w:=by kernel_rfl
theorem jbO{K:Array Value}(hK:K.size=32):Tryz.prog.built 178 [(0, .agg K)]=some K:=by
 have h:∃pl:Nat→Option(Nat×Nat),pl 0=some(0,32)∧∀ps,Tryz.prog.built 178 ps=Instr.fill pl jr ps:=⟨(#[(0,32)][·]?),rfl,fun ps=>by kernel_rfl⟩
 obtain⟨pl,h0,h1⟩ :=h
 rw [h1,jhs pl h0 hK j7]
theorem jjD{W:World}{t:TypeId}{A B C:Option Addr}{n m l c d f:Nat}{xs ys zs:List UInt8}(h1:Bs W A n c xs)(h2:Bs W B m d ys)(h3:Bs W C l f zs):Rw(W.alloc(.cells #[.slice A n c, .slice B m d, .slice C l f] t))(some⟨W.heap.size,0,none⟩)3 3 [xs,ys,zs]:=by
 have e:Ext W(W.alloc(.cells #[.slice A n c, .slice B m d, .slice C l f] t)):=(Ext.refl W).alloc _
 refine⟨rfl,Nat.le_refl _,by unfold maxLen;omega,fun _=>⟨_,0,rfl,by rw [je];omega,fun j hj=> ?_⟩⟩
 rw [cell_of_row _ _ _ _ _(0,0)(heap_alloc_new _ _)]
 match j with
 |0=>exact⟨A,n,c,rfl,h1.ext e⟩
 |1=>exact⟨B,m,d,rfl,h2.ext e⟩
 |2=>exact⟨C,l,f,rfl,h3.ext e⟩
 |j+3=>omega
theorem jgm(xs ys zs:List UInt8):(qw [xs,ys,zs]).length=12+xs.length+ys.length+zs.length:=by
 simp [qw,jaM];omega
set_option maxHeartbeats 4000000 in
theorem jd5{A B:Option Addr}{n c m d:Nat}{a t k S bs ts:List UInt8}{w:World}(ha:a.length=32)(ht:t.length=32)(hk:k.length=32)(hS:S=a ++ t ++ k)(h:Bs w A n c bs)(h':Bs w B m d ts)(hn:n≤1000000)(hm:m≤1000000){tg:TypeId×Nat×Nat}(hG:Gl w tg):
  Calls Tryz.prog 83 #[.agg(cellsOf S).toArray, .slice A n c, .slice B m d] w fun e w'=>e= .returned(.agg(cellsOf(jC t(qw [k,bs,ts]))).toArray)∧Ext w w':=by
 have JL:(qw [k,bs,ts]).length≤100000000:=by rw [jgm,hk,h.len,h'.len];omega
 have JOIN:Hid(∀(W:World)(C:Option Addr),Rw W C 3 3 [k,bs,ts]→Calls Tryz.prog 79 #[.slice C 3 3] W(Qw(qw [k,bs,ts])W)):=fun W C r=>jam r JL
 have MAC:Hid(∀(W:World)(C:Option Addr)(A':Option Addr)(m d:Nat),Ext w W→Bs W C 32 32 t→Bs W A' m d(qw [k,bs,ts])→Calls Tryz.prog 95 #[.slice C 32 32, .slice A' m d] W fun e w'=>e= .returned(.tuple #[.agg(cellsOf(jC t(qw [k,bs,ts]))).toArray, .int .i64 0])∧Ext W w'):=fun W C A' m d e k b=>Zi k b(by decide)(hG.kept e hG.lt)
 clear hG JL
 have ML:=qq t(qw [k,bs,ts])
 generalize jC t(qw [k,bs,ts])=D at *
 have DS:(cellsOf D).toArray.size=32:=by simp [cellsOf_len,ML]
 have D1:=ji D
 have hbd:Hid(Tryz.prog.built 178 [(0, .agg(cellsOf D).toArray)]=some(cellsOf D).toArray):=jbO DS
 have hal:=j2
 have hal2:=jbN
 have hz0:=j7
 generalize jr=Z at *
 have z1:=h.le
 have z2:=h.cap
 have z3:=h'.le
 have z4:=h'.cap
 have B0:Hid(∀w',Ext((w.alloc(Obj.cells(cellsOf S).toArray 174)).alloc(Obj.cells Z 178))w'→Bs w'(some⟨w.heap.size,32,none⟩)32 32 t∧Bs w'(some⟨w.heap.size,64,none⟩)32 32 k∧w'.heap[w.heap.size+1]? =some(.cells Z 178(0,0))∧Ext w w'∧Bs w' A n c bs∧Bs w' B m d ts):=fun w' e=>by
  have x:Ext w w':=(((Ext.refl w).alloc _).alloc _).trans e
  have y:=(e.block _(by rw [je,je];omega)).trans(jQ w(Obj.cells(cellsOf S).toArray 174)(Obj.cells Z 178))
  exact⟨jcw(p:=a)(q:=k)y hS ha ht(by omega),jcw(p:=a ++ t)(q:= [])y(by rw [hS];simp)(by rw [List.length_append];omega)hk(by omega),(e.block _(by rw [je,je];omega)).trans(jK _ _ _),x,h.ext x,h'.ext x⟩
 clear h h' hS
 go_enter Tryz.func83,Tryz.ntmps83
 go_upto_region 1 with fail
 refine jg(fun W=>∀w',Ext W w'→Bs w'(some⟨w.heap.size,32,none⟩)32 32 t∧Bs w'(some⟨w.heap.size,64,none⟩)32 32 k∧w'.heap[w.heap.size+1]? =some(.cells Z 178(0,0))∧Ext w w'∧Bs w' A n c bs∧Bs w' B m d ts)B0.out ?_
 clear B0
 rintro w0 b0
 have z0:=jh(b0 _(Ext.refl _)).2.2.1
 have B0:=hd b0
 clear b0
 go_cut [7,8](fun s5 s6 wx=>∃g:Nat,s5= .pointer(some⟨g,0,none⟩)∧s6= .int .i64 0∧Below w0.heap.size w0 wx∧wx.heap[g]? =some(.cells(cellsOf D).toArray 23(0,0))∧w0.heap.size≤g)
 case first =>
  refine qgT(R:=Below w0.heap.size)(Below.refl _)(fun _ _ _=>Below.trans)(.rd 0(.rd 1(.rd 2(.rd 3(.rd 4(.rd 5(.rd 6(.alt 7(.alt 8(.alt 9(.rd 10(.rd 11(.rd 12(.alt 13(.alt 14(.rd 15 .nil) .stop) .stop))))(.alt 13(.alt 9(.rd 10(.rd 11(.rd 12(.alt 14(.rd 15 .nil) .stop)))) .stop) .stop))(.alt 13(.alt 8(.alt 9(.rd 10(.rd 11(.rd 12(.alt 14(.rd 15 .nil) .stop)))) .stop) .stop) .stop))(.alt 13(.alt 7(.alt 8(.alt 9(.rd 10(.rd 11(.rd 12(.alt 14(.rd 15 .nil) .stop)))) .stop) .stop) .stop) .stop)))))))))16 ?_
  repeat((first |refine vM ?_ |refine qtS ?_);go_frame)
  have SE:Hid(Ext w0 w0.drew):=(Ext.refl w0).drew
  generalize w0.drew=WC at *
  repeat'(first
   |exact yC
   |(refine qc(i:=7)_ rfl ?_ ?_(fun K1 hK1=> ?_)
     (·rfl)
     rotate_left
     go_simp
     have bb:=B0.out _ SE.out
     have e:Ext WC(WC.alloc(Obj.cells #[.slice(some⟨w.heap.size,64,none⟩)32 32, .slice A n c, .slice B m d] 33)):=(Ext.refl WC).alloc _
     have hR:=hd(jjD(t:=33)bb.2.1 bb.2.2.2.2.1 bb.2.2.2.2.2)
     clear bb
     obtain⟨gR,hgR⟩:∃g,g=WC.heap.size:=⟨_,rfl⟩
     rw [← hgR] at hR ⊢
     refine hK1.out _ _(e.mono SE.out.size)?_
     clear hK1 K1 hgR
     (try replace hL:=hd((e.block _(jh hL.out)).trans hL.out))
     replace SE:=hd(SE.out.trans e)
     clear e
     generalize WC.alloc(Obj.cells #[.slice(some⟨w.heap.size,64,none⟩)32 32, .slice A n c, .slice B m d] 33)=WC at *
     (try go_frame)
     repeat((first |refine vM ?_ |refine qtS ?_);go_frame)
     skip)
   |(refine qc(i:=8)_ rfl ?_ ?_(fun K1 hK1=> ?_)
     (·rfl)
     rotate_left
     go_simp
     refine(JOIN.out _ _ hR.out).mono ?_
     rintro e0 WC⟨A2,n2,c2,rfl,b2,e⟩
     refine hK1.out _ _(e.mono SE.out.size)?_
     clear hK1 K1 hR
     (try replace hL:=hd((e.block _(jh hL.out)).trans hL.out))
     replace SE:=hd(SE.out.trans e)
     have hJ:=hd b2
     clear e b2
     (try go_frame)
     repeat((first |refine vM ?_ |refine qtS ?_);go_frame)
     skip)
   |(refine qc(i:=9)_ rfl ?_ ?_(fun K1 hK1=> ?_)
     (·rfl)
     rotate_left
     go_simp
     refine(MAC.out _ _ _ _ _(B0.out _ SE.out).2.2.2.1(B0.out _ SE.out).1 hJ.out).mono ?_
     rintro e0 WC⟨rfl,e⟩
     refine hK1.out _ _(e.mono SE.out.size)?_
     clear hK1 K1 hJ
     (try replace hL:=hd((e.block _(jh hL.out)).trans hL.out))
     replace SE:=hd(SE.out.trans e)
     clear e
     (try go_frame)
     repeat((first |refine vM ?_ |refine qtS ?_);go_frame)
     skip)
   |(refine qc(i:=13)_ rfl ?_ ?_(fun K1 hK1=> ?_)
     (·rfl)
     rotate_left
     go_simp
     have e:Ext WC(WC.alloc(Obj.cells Z 23)):=(Ext.refl WC).alloc _
     obtain⟨gL,hgL⟩:∃g,g=WC.heap.size:=⟨_,rfl⟩
     have hL:=hd(heap_alloc_new WC(Obj.cells Z 23))
     rw [← hgL] at hL ⊢
     have zl:w0.heap.size≤gL:=by rw [hgL];exact SE.out.size
     refine hK1.out _ _(e.mono SE.out.size)?_
     clear hK1 K1
     replace hgL:=hd hgL
     (try replace hJ:=hd(hJ.out.ext e))
     (try replace hR:=hd(hR.out.ext e))
     replace SE:=hd(SE.out.trans e)
     clear e
     generalize WC.alloc(Obj.cells Z 23)=WC at *
     (try go_frame)
     repeat((first |refine vM ?_ |refine qtS ?_);go_frame)
     skip)
   |(refine qc(i:=14)_ rfl ?_ ?_(fun K1 hK1=> ?_)
     (·rfl)
     rotate_left
     refine wp_store_row _ _ _ rfl gL(cellsOf D).toArray rfl rfl 23 Z hL.out(by rw [DS];rfl)(by rw [DS];exact hz0)D1 ?_
     refine hK1.out _ _(below_setRow(Below.refl _ _)zl _)?_
     clear hK1 K1
     have S1:Hid(Below w0.heap.size w0(WC.setRow gL(cellsOf D).toArray)):=below_setRow SE.out zl _
     have kx:Hid((WC.setRow gL(cellsOf D).toArray).heap[gL]? =some(.cells(cellsOf D).toArray 23(0,0))):=setRow_heap _ _ _ _ _ _ hL.out
     (try go_frame)
     repeat((first |refine vM ?_ |refine qtS ?_);go_frame)
     refine yB ?_
     go_wp2_with fail
     go_meet
     exact⟨gL,rfl,rfl,S1.out,kx.out,zl⟩)
   )
 case rest =>
  obtain⟨g,rfl,rfl,E1,kr,hg⟩ :=hcut
  have b1:=B0.out _ E1
  have r1:=hd b1.2.2.1
  have x1:=hd b1.2.2.2.1
  replace kr:=hd kr
  clear b1 B0 JOIN MAC E1
  go_wp2_with(first
   |(refine wpList_load_row rfl 23 _ rfl g rfl 23(cellsOf D).toArray(0,0)_ kr.out rfl rfl(by rw [DS];rfl)?_;go_frame)
   |(refine jm rfl _ _ rfl(cellsOf D).toArray(by simp only [List.map_toArray,List.map_cons,List.map_nil];exact hbd.out)?_;go_frame)
   |(refine wpList_store_row rfl 178 _ _ rfl(w.heap.size+1)(cellsOf D).toArray rfl rfl 178 Z r1.out(by rw [DS];rfl)(by rw [DS];exact hz0)D1 ?_;go_frame))
  (try simp only [Exit.inBlock,Exit.then])
  refine bodyPost_ret(results_cell_row rfl _ _(w.heap.size+1)178(cellsOf D).toArray(0,0)_ rfl(setRow_heap _ _ _ _ _ _ r1.out)rfl rfl(by rw [DS];rfl))rfl ?_
  exact⟨rfl,below_setRow x1.out(Nat.le_succ _)_⟩
def zh(ks bs:List UInt8):List UInt8:=yX(jM ks Jg)jgv 0 bs
def YI(ks bs ts:List UInt8):List UInt8:=jC(jM ks Z0)(qw [ks,bs,ts])
def qz(ks bs ts:List UInt8):List UInt8:=zh ks ts ++ YI ks bs(zh ks ts)
theorem sealT_len(ks bs:List UInt8):(zh ks bs).length=bs.length:=yD _ _ _ _
theorem sealM_len(ks bs ts:List UInt8):(YI ks bs ts).length=32:=qq _ _
theorem sealL_len(ks bs ts:List UInt8):(qz ks bs ts).length=ts.length+32:=by unfold qz;rw [List.length_append,JW,Zn]
theorem sturn2_calls{A:Option Addr}{n c:Nat}{ks bs:List UInt8}{w:World}(h:Bs w A n c bs)(hn:n≤100000000):
  Calls Tryz.prog 82 #[.agg(cellsOf(Qv ks)).toArray, .slice A n c] w(YA(zh ks bs)w):=jd2(jR _ _)rfl h hn
theorem tagOf2_calls{A B:Option Addr}{n c m d:Nat}{ks bs ts:List UInt8}{w:World}(hk:ks.length=32)(h:Bs w A n c bs)(h':Bs w B m d ts)(hn:n≤1000000)(hm:m≤1000000){tg:TypeId×Nat×Nat}(hG:Gl w tg):
  Calls Tryz.prog 83 #[.agg(cellsOf(Qv ks)).toArray, .slice A n c, .slice B m d] w fun e w'=>e= .returned(.agg(cellsOf(YI ks bs ts)).toArray)∧Ext w w':=jd5(jR _ _)(jR _ _)hk rfl h h' hn hm hG
set_option maxHeartbeats 2000000 in
theorem close_calls{A B:Option Addr}{n c m d:Nat}{ks bs ts:List UInt8}{w:World}(hk:ks.length=32)(h:Bs w A n c bs)(h':Bs w B m d ts)(hn:n≤1000000)(hm:m≤1000000){tg:TypeId×Nat×Nat}(hG:Gl w tg):
  Calls Tryz.prog 47 #[.agg(cellsOf ks).toArray, .slice A n c, .slice B m d] w(YA(qz ks bs ts)w):=by
 have SEAL:Hid(∀W,Ext w W→Calls Tryz.prog 81 #[.agg(cellsOf ks).toArray] W fun e w'=>e= .returned(.agg(cellsOf(Qv ks)).toArray)∧Ext W w'):=fun W e=>JA hk(hG.kept e hG.lt)
 have TURN:Hid(∀W,Ext w W→Calls Tryz.prog 82 #[.agg(cellsOf(Qv ks)).toArray, .slice B m d] W(YA(zh ks ts)W)):=fun W e=>QM(h'.ext e)(by omega)
 have TAG:Hid(∀W C d',Ext w W→Bs W C m d'(zh ks ts)→Calls Tryz.prog 83 #[.agg(cellsOf(slrL ks)).toArray, .slice A n c, .slice C m d'] W fun e w'=>e= .returned(.agg(cellsOf(sealM ks bs(zh ks ts))).toArray)∧Ext W w'):=fun W C d' e b=>QO hk(h.ext e)b hn hm(hG.kept e hG.lt)
 have TL:=(JW ks ts).trans h'.len
 have ML:=Zn ks bs(zh ks ts)
 have SL:=jaP hk
 have z1:=h.le
 have z2:=h.cap
 have z3:=h'.le
 have z4:=h'.cap
 clear hG h h'
 unfold sealL
 generalize YI ks bs(zh ks ts)=M at *
 generalize zh ks ts=T at *
 generalize Qv ks=S at *
 have KS:(cellsOf ks).toArray.size=32:=by simp [ja,hk]
 have MS:(cellsOf M).toArray.size=32:=by simp [ja,ML]
 have M1:=ji M
 have SS:(cellsOf S).toArray.size=96:=by simp [ja,SL]
 have S1:=ji S
 have ha1:=Y8
 have hz1:=Qx
 generalize Z96=Y at *
 have ha2:=jbN
 have hz2:=j7
 generalize jr=Z at *
 have P0:Hid(∀s,Ext(w.alloc(Obj.cells(cellsOf ks).toArray 23))s→Ky s w.heap.size ks∧Ext w s):=fun s e=>⟨(Ky.boxed w hk).ext e,((Ext.refl w).alloc _).trans e⟩
 go_enter Tryz.func47,Tryz.ntmps47
 go_upto_region 1 with fail
 have k0:=hd(P0.out _(Ext.refl _)).1
 go_wp2_with(refine wpList_load_row rfl 23 _ rfl w.heap.size rfl 23(cellsOf ks).toArray(0,0)_ k0.out.1 rfl rfl(by rw [KS];rfl)?_;go_frame)
 refine(SEAL.out _(P0.out _(Ext.refl _)).2).mono ?_
 rintro e v⟨rfl,e1⟩
 have x1:=hd(P0.out _ e1).2
 clear P0 k0 SEAL e1
 have a1:Hid((v.alloc(Obj.cells Y 174)).heap[v.heap.size]? =some(.cells Y 174(0,0))):=heap_alloc_new _ _
 go_upto_region 2 with(refine wpList_store_row rfl 174 _ _ rfl v.heap.size(cellsOf S).toArray rfl rfl 174 Y a1.out(by rw [SS];rfl)(by rw [SS];exact hz1)S1 ?_;go_frame)
 obtain⟨g,hg⟩:∃g,g=v.heap.size:=⟨_,rfl⟩
 have e5:Ext v((v.alloc(Obj.cells Y 174)).setRow v.heap.size(cellsOf S).toArray):=below_setRow((Ext.refl v).alloc _)(Nat.le_refl _)_
 refine wp_gen(fun W=>w.heap.size≤g∧∀s,Ext W s→s.heap[g]? =some(.cells(cellsOf S).toArray 174(0,0))∧Ext w s)⟨by rw [hg];exact x1.out.size,fun s e=>⟨(e.block _(by simp [hg])).trans(by rw [hg];exact setRow_heap _ _ _ _ _ _ a1.out),x1.out.trans(e5.trans e)⟩⟩?_
 rw [← hg]
 clear hg a1 x1 e5
 rintro w1⟨gg,P1⟩
 replace P1:=hd P1
 have k0:=hd(P1.out _(Ext.refl _)).1
 go_wp2_with(refine wpList_load_row rfl 174 _ rfl g rfl 174(cellsOf S).toArray(0,0)_ k0.out rfl rfl(by rw [SS];rfl)?_;go_frame)
 refine(TURN.out _(P1.out _(Ext.refl _)).2).mono ?_
 rintro e w2⟨A2,n2,c2,rfl,o2,e2⟩
 obtain rfl:n2=m:=by rw [← o2.len,TL]
 have zs:=(P1.out _(Ext.refl _)).2.size
 replace o2:=hd(o2.lower zs)
 have P2:Hid(∀s,Ext w2 s→s.heap[g]? =some(.cells(cellsOf S).toArray 174(0,0))∧Ext w s):=fun s e=>P1.out s(e2.trans e)
 clear P1 k0 TURN e2 zs
 have k0:=hd(P2.out _(Ext.refl _)).1
 go_wp2_with(refine wpList_load_row rfl 174 _ rfl g rfl 174(cellsOf S).toArray(0,0)_ k0.out rfl rfl(by rw [SS];rfl)?_;go_frame)
 refine(TAG.out _ _ _(P2.out _(Ext.refl _)).2 o2.out.bs).mono ?_
 rintro e v⟨rfl,e3⟩
 have o3:=hd(o2.out.ext e3)
 have x3:=hd(P2.out _ e3).2
 clear P2 k0 TAG e3 o2
 have a1:Hid((v.alloc(Obj.cells Z 178)).heap[v.heap.size]? =some(.cells Z 178(0,0))):=heap_alloc_new _ _
 go_upto_region 4 with(refine wpList_store_row rfl 178 _ _ rfl v.heap.size(cellsOf M).toArray rfl rfl 178 Z a1.out(by rw [MS];rfl)(by rw [MS];exact hz2)M1 ?_;go_frame)
 obtain⟨f,hf⟩:∃f,f=v.heap.size:=⟨_,rfl⟩
 have e4:Ext v((v.alloc(Obj.cells Z 178)).setRow v.heap.size(cellsOf M).toArray):=below_setRow((Ext.refl v).alloc _)(Nat.le_refl _)_
 refine wp_gen(fun W=>Ext w W∧Own w.heap.size W A2 n2 c2 T∧Bs W(some⟨f,0,none⟩)32 32 M)⟨x3.out.trans e4,o3.out.ext e4,jcw(t:=178)(p:= [])(q:= [])(by rw [hf];exact setRow_heap _ _ _ _ _ _ a1.out)(by simp)rfl ML(by omega)⟩?_
 rw [← hf]
 clear hf a1 e4 x3 o3
 rintro w4⟨x4,o4,b4⟩
 replace x4:=hd x4
 replace o4:=hd o4
 replace b4:=hd b4
 go_wp2_with(at_builtin;(with_reducible refine jJ rfl(B:=w.heap.size)(s:= .tmp 19)(x:= .tmp 21)rfl rfl rfl o4.out b4.out(by omega)x4.out.size ?_);intro A5 c5 w5 o5 g5 b5;replace o5:=hd o5;clear g5;replace b5:=hd b5;go_frame)
 go_ret
 exact⟨_,_,_,rfl,o5.out,Below.trans x4.out b5.out⟩
end
section
open Go.ChangeShapes Go.WideShapes Go.ChangeAt Go.RowKit Go.Deep
theorem jgd{w:World}{o:Oper}{a:Act}{x lo:Operand}{A:Option Addr}{n c k:Nat}{kd:IntKind}(ho:o.op= .slice 33 x(some lo)none none)(hx:a.eval x= .slice A n c)(hl:a.eval lo= .int kd(k:Int))(hk:k≤n)(hnc:n≤c):
  (execOp a.eval o).run Tryz.prog w= .ok(.value(.slice(if c=k then A else A.map(·.add k))(n - k)(c - k)))w:=by
 obtain⟨dst,op,ty,pos,af,gd⟩ :=o
 simp only at ho
 subst ho
 obtain⟨i,hi',hsz⟩ :=Option.map_eq_some_iff.1 jfW
 have q1:(k:Int)≤(n:Int):=by omega
 simp only [execOp,hx,hl,Option.map,Instr.sliceAt]
 go_simp
 cases A <;> rfl
theorem ji4{w:World}{o:Oper}{a:Act}{x hi:Operand}{A:Option Addr}{n c k:Nat}{kd:IntKind}(ho:o.op= .slice 33 x none(some hi)none)(hx:a.eval x= .slice A n c)(hl:a.eval hi= .int kd(k:Int))(hk:k≤c):
  (execOp a.eval o).run Tryz.prog w= .ok(.value(.slice A k c))w:=by
 obtain⟨dst,op,ty,pos,af,gd⟩ :=o
 simp only at ho
 subst ho
 obtain⟨i,hi',hsz⟩ :=Option.map_eq_some_iff.1 jfW
 have q1:(k:Int)≤(c:Int):=by omega
 have q2:(if c=0 then A else A.map(·.add 0))=A:=by
  split
  ·rfl
  ·cases A <;> simp [Addr.add]
 simp only [execOp,hx,hl,Option.map,Instr.sliceAt]
 go_simp
end
section
open Go.ChangeShapes Go.WideShapes Go.ChangeAt Go.RowKit Go.Deep
set_option maxRecDepth 100000
theorem qK{P:Program}{fn:Func}{u p v:Tmp}{ty:TypeId}(h:fn.results= #[.cell p ty, .tmp u, .tmp v])(tmps:Array Value)(w:World)(g:Nat)(t:TypeId)(cs:Array Value)(fr:Nat×Nat)(d:TypeDesc)(x y:Value)
  (hx:tmps.getD u undef=x)(hp:tmps.getD p undef= .pointer(some⟨g,0,none⟩))(hy:tmps.getD v undef=y)(hg:w.heap[g]? =some(.cells cs t fr))
  (hu:P.underlying ty=some d)(hd:(match d with | .struct _ | .array _ _=>true |_=>false)=true)(hi:(P.info? ty).map(·.size)=some cs.size):
  (results fn tmps).run P w= .ok(.tuple #[.agg cs,x,y])w:=by
 have hp':tmps[p]?.getD undef= .pointer(some⟨g,0,none⟩):=by simpa using hp
 have hx':tmps[u]?.getD undef=x:=by simpa using hx
 have hy':tmps[v]?.getD undef=y:=by simpa using hy
 simp [results,h,hp',hx',hy',asAddr,run_loadVar_row w g t ty cs fr d hg hu hd hi,Sem.run_bind,Result.andThen]
theorem jbn{o:Oper}{a:Act}{K:Act→World→Prop}{Q:Exit→Act→World→Prop}{W:World}{g dCap:Nat}{cur:Array Value}{t dT sT ty:TypeId}{A:Option Addr}{n c:Nat}{xs:List UInt8}(hu:Tryz.prog.underlying dT=some(.slice 5))(hg:W.heap[g]? =some(.cells cur t(0,0)))(h:Bs W A n c xs)(hn:32≤n)(hc:cur.size=32)
  (H:Oper.upon Tryz.prog o a K Q(.ok(Next.value(goInt 32))(W.setRow g(cellsOf(xs.take 32)).toArray))):
  Oper.upon Tryz.prog o a K Q(((Builtin.copy_ #[dT,sT] ty #[.slice(some⟨g,0,none⟩)32 dCap, .slice A n c]).run Tryz.prog W).andThen fun a w'=> .ok(Next.value a)w'):=by
 have hl:=h.len
 obtain⟨b,o',rfl,hb,hcl⟩ :=h.pos(by omega)
 have hsz:(Tryz.prog.info? 5).map(·.size)=some 1:=rfl
 have hL:(cellsOf(xs.take 32)).length=32:=by rw [ja,List.length_take];omega
 have hr:=run_copy_row Tryz.prog W dT sT ty _ g 0 32 dCap⟨b,o',none⟩n c cur t(cellsOf(xs.take 32))hu hsz hg(by rw [hL];exact(Nat.min_eq_right hn).symm)(fun j v hv=>by
  have hj:j < 32:=by
   have:=(List.getElem?_eq_some_iff.1 hv).1
   rwa [hL] at this
  rw [jZ(by rw [List.length_take];omega),YU hj] at hv
  injection hv with hv
  subst hv
  have:(⟨b,o',none⟩:Addr).add j=⟨b,o'+j,none⟩ :=by unfold Addr.add;split <;> simp_all
  rw [this]
  exact hcl j(by omega))(by rw [hL];omega)(fun v hv=>by
  obtain⟨j,_,rfl⟩ :=List.mem_map.1 hv
  rfl)
 have he:(cur.toList.take 0 ++ cellsOf(xs.take 32)++ cur.toList.drop(0+(cellsOf(xs.take 32)).length))=cellsOf(xs.take 32):=by
  rw [hL,List.drop_of_length_le(by simp [hc])];simp
 rw [he,hL] at hr
 rw [hr]
 exact H
def Z8(xs:List UInt8)(er:Int)(w:World)(e:Ending)(w':World):Prop:=e= .returned(.tuple #[.agg(cellsOf xs).toArray, .int .i64 er])∧Ext w w'
set_option maxHeartbeats 1000000 in
theorem tag_err{A:Option Addr}{n c:Nat}{bs:List UInt8}{w:World}(h:Bs w A n c bs)(hn:n < 32):
  Calls Tryz.prog 119 #[.slice A n c] w(Z8(List.replicate 32 0)3 w):=by
 have c1:=h.le
 have c2:=h.cap
 have hal:=j2
 have hb:=zI
 have hs:=j7
 have ho:=JI
 have hc:=hd jU
 have hz:Hid((w.alloc(Obj.cells jr 23)).heap[w.heap.size]? =some(Obj.cells jr 23)):=heap_alloc_new _ _
 have he:Hid(∀C,Ext w((w.alloc(Obj.cells jr 23)).setRow w.heap.size C)):=fun C=>below_setRow((Ext.refl w).alloc _)(Nat.le_refl _)_
 unfold RetTag
 rw [hc.out]
 clear hc
 generalize zeros32=Z at *
 have q1':decide((n:Int) < 32)=true:=decide_eq_true(by omega)
 clear h
 go_enter Tryz.func119,Tryz.ntmps119
 go_wp2_with(first
  |refine jm rfl _ _ rfl Z hb ?_
  |refine wpList_store_row rfl 23 _ _ rfl w.heap.size Z rfl rfl 23 _(by with_reducible exact hz.out)(by rw [hs];rfl)rfl ho ?_)
 (try simp only [Exit.inBlock,Exit.then])
 refine bodyPost_ret(v:= .tuple #[.agg Z, .int .i64 3])?_ rfl ?_
 ·exact results_row_tmp rfl _ _ w.heap.size 23 Z(0,0)_ _ rfl rfl(setRow_heap _ _ _ _ _ _ hz.out)rfl rfl(by rw [hs];rfl)
 ·exact⟨rfl,he.out _⟩
set_option maxHeartbeats 1000000 in
theorem tag_calls{A:Option Addr}{n c m:Nat}{bs:List UInt8}{w:World}(h:Bs w A n c bs)(hn:n=m+32)(hm:n≤100000000):
  Calls Tryz.prog 119 #[.slice A n c] w(Z8(bs.drop m)0 w):=by
 have q1':decide((n:Int) < 32)=false:=decide_eq_false(by omega)
 have hd:(n:Int) - 32=(m:Int):=by omega
 have c1:=h.le
 have c2:=h.cap
 have hl:=h.len
 have mn:m≤n:=by omega
 have CUT:=hd(h.cut(k:=m)mn)
 have XL:(bs.drop m).length=32:=by rw [List.length_drop];omega
 have nm:n - m=32:=by omega
 rw [nm] at CUT
 have m1:m≤100000000:=by omega
 have hw:IntKind.i64.wrap(m:Int)=(m:Int):=IntWalk.i64_in _(by omega)
 replace hn:=hd hn
 clear h hl
 replace nm:=hd nm
 generalize bs.drop m=xs at *
 have XS:(cellsOf xs).toArray.size=32:=by simp [ja,XL]
 have X1:=ji xs
 have hal:=j2
 have hz0:=j7
 generalize zeros32=Z at *
 have B0:Hid(((w.alloc(Obj.cells Z 23)).alloc(Obj.cells Z 23)).heap[w.heap.size]? =some(.cells Z 23(0,0))∧((w.alloc(Obj.cells Z 23)).alloc(Obj.cells Z 23)).heap[w.heap.size+1]? =some(.cells Z 23(0,0))∧Ext w((w.alloc(Obj.cells Z 23)).alloc(Obj.cells Z 23))):=⟨jQ _ _ _,jK _ _ _,((Ext.refl w).alloc _).alloc _⟩
 go_enter Tryz.func119,Tryz.ntmps119
 go_upto_region 4 with fail
 refine wp_gen(fun W=>W.heap[w.heap.size]? =some(.cells Z 23(0,0))∧W.heap[w.heap.size+1]? =some(.cells Z 23(0,0))∧Ext w W)B0.out ?_
 clear B0
 rintro w0⟨b0,b1,e0⟩
 have h0:=hd(CUT.out.ext(e0.trans(Ext.refl w0).drew))
 have b0':Hid(w0.drew.heap[w.heap.size]? =some(.cells Z 23(0,0))):=b0
 have b1':Hid(w0.drew.heap[w.heap.size+1]? =some(.cells Z 23(0,0))):=b1
 have e0':Hid(Ext w w0.drew):=e0.drew
 clear b0 b1 e0 CUT
 go_wp2_with fail
 refine qgB w.heap.size [0,1,2,3,4,5,6] [6] ?_
 iterate 5((first |refine qR0 ?_ |refine qS ?_);go_frame)
 refine qV rfl(fun _=>True)(fun _ _=>trivial)(.slice(if c=m then A else A.map(·.add m))(n - m)(c - m))(fun w' _=>jgd rfl rfl rfl mn c1)?_
 go_frame
 generalize w0.drew=W at *
 rw [nm.out]
 generalize(if c=m then A else A.map(·.add m))=A' at *
 generalize c - m=c' at *
 refine qD fun K hK=> ?_
 go_simp
 refine upon_copy_key(xs:=xs)rfl b1'.out h0.out(Nat.le_refl _)hz0 ?_
 rw [List.take_of_length_le(by omega)]
 have R1:Hid((W.setRow(w.heap.size+1)(cellsOf xs).toArray).heap[w.heap.size+1]? =some(.cells(cellsOf xs).toArray 23(0,0))):=setRow_heap _ _ _ _ _ _ b1'.out
 have R0:Hid((W.setRow(w.heap.size+1)(cellsOf xs).toArray).heap[w.heap.size]? =some(.cells Z 23(0,0))):=(setRow_other _ _ _ _(by omega)).trans b0'.out
 have E1:Hid(Ext w(W.setRow(w.heap.size+1)(cellsOf xs).toArray)):=below_setRow e0'.out(Nat.le_succ _)_
 go_simp
 refine hK.out _ _(below_setRow(Below.refl _ _)(Nat.le_succ _)_)?_
 clear hK K
 refine seq_done ?_
 go_wp2_with(first
  |(refine vP rfl(jd rfl rfl R1.out rfl rfl(by rw [XS];rfl))?_;go_frame)
  |(refine wpList_store_row rfl 23 _ _ rfl w.heap.size(cellsOf xs).toArray rfl rfl 23 Z R0.out(by rw [XS];rfl)(by rw [XS];exact hz0)X1 ?_;go_frame))
 (try simp only [Exit.inBlock,Exit.then])
 refine bodyPost_ret(v:= .tuple #[.agg(cellsOf xs).toArray, .int .i64 0])?_ rfl ?_
 ·exact results_row_tmp rfl _ _ w.heap.size 23(cellsOf xs).toArray(0,0)_ _ rfl rfl(setRow_heap _ _ _ _ _ _ R0.out)rfl rfl(by rw [XS];rfl)
 ·exact⟨rfl,below_setRow E1.out(Nat.le_refl _)_⟩
theorem part_keyS{w:World}{K:Array Value}(hK:K.size=32):(part 23 K 0).run Tryz.prog w= .ok(.agg K)w:=by
 obtain⟨i,hi,hz0,hz1,hz2⟩ :=info_parts jfH
 have he:K.extract 0 32=K:=by rw [← hK];exact Array.extract_size
 simp [part,isAgg,run_underlying Tryz.underlying23,sizeOf,typeInfo,hi,hz1,he]
theorem tag_fields:∃f:Field,(Tryz.prog.fieldsOf 178).toList= [f]∧f.type=23∧f.offset=0∧f.name≠ "_" :=by
 have h:((Tryz.prog.fieldsOf 178).toList.map fun f=>(f.name,f.type,f.offset))= [("bytes",23,0)]:=by kernel_rfl
 match hl:(Tryz.prog.fieldsOf 178).toList with
 | []=>rw [hl] at h;simp at h
 | [f] =>
  rw [hl] at h
  simp only [List.map_cons,List.map_nil,List.cons.injEq,and_true,Prod.mk.injEq] at h
  exact⟨f,rfl,h.2.1,h.2.2,by rw [h.1];decide⟩
 |f :: g :: r=>rw [hl] at h;simp at h
theorem tag_equal{xs ys:List UInt8}(hx:xs.length=32)(hy:ys.length=32)(w:World):
  (Op.equalIn 10000 178(.agg(cellsOf xs).toArray)(.agg(cellsOf ys).toArray)).run Tryz.prog w= .ok(decide(xs=ys))w:=by
 have hX:(cellsOf xs).toArray.size=32:=by simp [ja,hx]
 have hY:(cellsOf ys).toArray.size=32:=by simp [ja,hy]
 have hk:(Op.equalIn 9999 23(.agg(cellsOf xs).toArray)(.agg(cellsOf ys).toArray)).run Tryz.prog w= .ok(decide(xs=ys))w:=by
  rw [zS,zS,run_equalIn_bytes w 9997 23 5 32 rfl rfl(fun _=>rfl)xs ys hx hy]
  congr 1
  rw [Bool.eq_iff_iff];simp
 obtain⟨f,hf,ht,ho,hn⟩ :=jfc
 rw [run_equalIn_struct w 9999 178 _ _(by kernel_rfl)(by kernel_rfl),hf]
 simp only [Op.eqFields,ht,ho,if_pos hn,Sem.run_bind,jbE hX,jbE hY,Result.andThen_ok,hk]
 cases decide(xs=ys) <;> rfl
theorem tag_guard:Tryz.prog.eqGuardType Tryz.prog.depth 178=false:=by kernel_rfl
theorem exec_neq_tag{o:Oper}{a:Act}{w:World}{x y:Operand}{t':TypeId}{xs ys:List UInt8}{b:Bool}(hb:(!decide(xs=ys))=b)(lx:xs.length=32)(ly:ys.length=32)(ho:o.op= .binOp .neq 178 x y t')(hx:a.eval x= .agg(cellsOf xs).toArray)(hy:a.eval y= .agg(cellsOf ys).toArray):
  (execOp a.eval o).run Tryz.prog w= .ok(.value(.bool b))w:=by
 unfold execOp
 simp only [ho,hx,hy,Sem.run_bind,run_eqGuard_agg _ _ _ _ _ _ _ jgP,Result.andThen_ok,run_neq_struct,jgO lx ly,Sem.run_pure,hb]
def JJ(xs:List UInt8)(er:Int)(w:World)(e:Ending)(w':World):Prop:= ∃A n c,e= .returned(.tuple #[.slice A n c, .int .i64 er])∧Own w.heap.size w' A n c xs∧Ext w w'
set_option maxHeartbeats 1000000 in
theorem open_shortO{A B:Option Addr}{n c m d:Nat}{ks bs cs:List UInt8}{w:World}(h:Bs w A n c bs)(h':Bs w B m d cs)(hm:m < 32):
  Calls Tryz.prog 89 #[.agg(cellsOf ks).toArray, .slice A n c, .slice B m d] w(JJ [] 3 w):=by
 have TAG:Hid(∀W,Ext w W→Calls Tryz.prog 119 #[.slice B m d] W(Z8(List.replicate 32 0)3 W)):=fun W e=>jjG(h'.ext e)hm
 have ZL:(List.replicate 32(0:UInt8)).length=32:=by simp
 generalize List.replicate 32(0:UInt8)=zs at *
 have ZS:(cellsOf zs).toArray.size=32:=by simp [ja,ZL]
 have Z1:=ji zs
 have hal:=j2
 have hz0:=j7
 generalize jr=Z at *
 clear h h'
 generalize(cellsOf ks).toArray=KS
 go_enter Tryz.func89,Tryz.ntmps89
 go_wp2_with fail
 refine(TAG.out _((Ext.refl w).alloc _)).mono ?_
 rintro e v⟨rfl,e1⟩
 have a1:Hid((v.alloc(Obj.cells Z 23)).heap[v.heap.size]? =some(.cells Z 23(0,0))):=heap_alloc_new _ _
 go_wp2_with(refine wpList_store_row rfl 23 _ _ rfl v.heap.size(cellsOf zs).toArray rfl rfl 23 Z a1.out(by rw [ZS];rfl)(by rw [ZS];exact hz0)Z1 ?_;go_frame)
 go_ret2
 exact⟨none,0,0,rfl,Own.nil _ _,((Ext.refl w).alloc _).trans(e1.trans(below_setRow((Ext.refl v).alloc _)(Nat.le_refl _)_))⟩
set_option maxHeartbeats 4000000 in
theorem open_mainO{A B:Option Addr}{n c m d q:Nat}{ks bs cs:List UInt8}{w:World}(hk:ks.length=32)(h:Bs w A n c bs)(h':Bs w B m d cs)(hq:m=q+32)(hn:n≤1000000)(hm:m≤1000000){b:Bool}(hb:(!decide(YI ks bs(cs.take q)=cs.drop q))=b){tg:TypeId×Nat×Nat}(hG:Gl w tg):
  Calls Tryz.prog 89 #[.agg(cellsOf ks).toArray, .slice A n c, .slice B m d] w(JJ(if b then [] else zh ks(cs.take q))(if b then 4 else 0)w):=by
 obtain⟨R,hR⟩:∃R,R=(if b then [] else zh ks(cs.take q)):=⟨_,rfl⟩
 obtain⟨er,hE⟩:∃er:Int,er=(if b then 4 else 0):=⟨_,rfl⟩
 rw [← hR,← hE]
 replace hR:=hd hR
 replace hE:=hd hE
 have qm:q≤m:=by omega
 have TAG:Hid(∀W,Ext w W→Calls Tryz.prog 119 #[.slice B m d] W(Z8(cs.drop q)0 W)):=fun W e=>jgN(h'.ext e)hq(by omega)
 have SEAL:Hid(∀W,Ext w W→Calls Tryz.prog 81 #[.agg(cellsOf ks).toArray] W fun e w'=>e= .returned(.agg(cellsOf(Qv ks)).toArray)∧Ext W w'):=fun W e=>JA hk(hG.kept e hG.lt)
 have TURN:Hid(∀W,Ext w W→Calls Tryz.prog 82 #[.agg(cellsOf(Qv ks)).toArray, .slice B q d] W(YA(zh ks(cs.take q))W)):=fun W e=>QM((h'.ext e).take qm)(by omega)
 have TAGOF:Hid(∀W,Ext w W→Calls Tryz.prog 83 #[.agg(cellsOf(Qv ks)).toArray, .slice A n c, .slice B q d] W fun e w'=>e= .returned(.agg(cellsOf(YI ks bs(cs.take q))).toArray)∧Ext W w'):=fun W e=>QO hk(h.ext e)((h'.ext e).take qm)hn(by omega)(hG.kept e hG.lt)
 have ML:=Zn ks bs(cs.take q)
 have SL:=jaP hk
 have XL:(cs.drop q).length=32:=by rw [List.length_drop,h'.len];omega
 have z1:=h.le
 have z2:=h.cap
 have z3:=h'.le
 have z4:=h'.cap
 have hd:(m:Int) - 32=(q:Int):=by omega
 have q1:q≤1000000:=by omega
 have hw:IntKind.i64.wrap(q:Int)=(q:Int):=IntWalk.i64_in _(by omega)
 replace hq:=hd hq
 clear hG h h'
 generalize YI ks bs(cs.take q)=M at *
 generalize zh ks(cs.take q)=T at *
 generalize cs.drop q=xs at *
 generalize Qv ks=S at *
 replace hb:=hd hb
 have KS:(cellsOf ks).toArray.size=32:=by simp [ja,hk]
 have XS:(cellsOf xs).toArray.size=32:=by simp [ja,XL]
 have X1:=ji xs
 have SS:(cellsOf S).toArray.size=96:=by simp [ja,SL]
 have S1:=ji S
 have ha1:=Y8
 have hz1:=Qx
 generalize Z96=Y at *
 have hbd:Hid(Tryz.prog.built 178 [(0, .agg(cellsOf xs).toArray)]=some(cellsOf xs).toArray):=jbO XS
 have ha2:=j2
 have hz2:=j7
 generalize jr=Z at *
 have P0:Hid(∀s,Ext(w.alloc(Obj.cells(cellsOf ks).toArray 23))s→Ky s w.heap.size ks∧Ext w s):=fun s e=>⟨(Ky.boxed w hk).ext e,((Ext.refl w).alloc _).trans e⟩
 go_enter Tryz.func89,Tryz.ntmps89
 go_wp2_with fail
 refine(TAG.out _(P0.out _(Ext.refl _)).2).mono ?_
 rintro e v⟨rfl,e1⟩
 have a1:Hid((v.alloc(Obj.cells Z 23)).heap[v.heap.size]? =some(.cells Z 23(0,0))):=heap_alloc_new _ _
 have e5:Ext v((v.alloc(Obj.cells Z 23)).setRow v.heap.size(cellsOf xs).toArray):=below_setRow((Ext.refl v).alloc _)(Nat.le_refl _)_
 go_upto_region 4 with(refine wpList_store_row rfl 23 _ _ rfl v.heap.size(cellsOf xs).toArray rfl rfl 23 Z a1.out(by rw [XS];rfl)(by rw [XS];exact hz2)X1 ?_;go_frame)
 obtain⟨f,hf⟩:∃f,f=v.heap.size:=⟨_,rfl⟩
 refine wp_gen(fun W=>∀s,Ext W s→Ky s w.heap.size ks∧Ky s f xs∧Ext w s)(fun s e=>by
  have p:=P0.out s(e1.trans(e5.trans e))
  exact⟨p.1,(show Ky _ f xs from⟨by rw [hf];exact setRow_heap _ _ _ _ _ _ a1.out,XL⟩).ext e,p.2⟩)?_
 rw [← hf]
 clear hf a1 e5 e1 P0 TAG
 rintro w1 P1
 replace P1:=hd P1
 have k0:=hd(P1.out _(Ext.refl _)).1
 go_wp2_with(refine wpList_load_row rfl 23 _ rfl w.heap.size rfl 23(cellsOf ks).toArray(0,0)_ k0.out.1 rfl rfl(by rw [KS];rfl)?_;go_frame)
 refine(SEAL.out _(P1.out _(Ext.refl _)).2.2).mono ?_
 rintro e v⟨rfl,e1⟩
 have a1:Hid((v.alloc(Obj.cells Y 174)).heap[v.heap.size]? =some(.cells Y 174(0,0))):=heap_alloc_new _ _
 have e5:Ext v((v.alloc(Obj.cells Y 174)).setRow v.heap.size(cellsOf S).toArray):=below_setRow((Ext.refl v).alloc _)(Nat.le_refl _)_
 go_upto_region 6 with(first
  |(refine wpList_store_row rfl 174 _ _ rfl v.heap.size(cellsOf S).toArray rfl rfl 174 Y a1.out(by rw [SS];rfl)(by rw [SS];exact hz1)S1 ?_;go_frame)
  |(refine vP rfl(ji4(k:=q)rfl rfl rfl(by omega))?_;go_frame))
 obtain⟨g,hg⟩:∃g,g=v.heap.size:=⟨_,rfl⟩
 refine wp_gen(fun W=>∀s,Ext W s→s.heap[g]? =some(.cells(cellsOf S).toArray 174(0,0))∧Ky s f xs∧Ext w s)(fun s e=>by
  have p:=P1.out s(e1.trans(e5.trans e))
  exact⟨(e.block _(by simp [hg])).trans(by rw [hg];exact setRow_heap _ _ _ _ _ _ a1.out),p.2.1,p.2.2⟩)?_
 rw [← hg]
 clear hg a1 e5 e1 P1 SEAL k0
 rintro w2 P2
 replace P2:=hd P2
 go_wp2_with fail
 refine qgE [0,1,2,4,5,3,6] [3] ?_
 refine qV rfl(fun w'=>w'.heap[g]? =some(.cells(cellsOf S).toArray 174(0,0)))(fun w' e=>(P2.out w'((Ext.refl _).drew.trans e)).1)(.agg(cellsOf S).toArray)(fun w' hF=>jd rfl rfl hF rfl rfl(by rw [SS];rfl))?_
 go_frame
 iterate 2((first |refine qR0 ?_ |refine qS ?_);go_frame)
 refine qV rfl(fun w'=>w'.heap[f]? =some(.cells(cellsOf xs).toArray 23(0,0)))(fun w' e=>(P2.out w'((Ext.refl _).drew.trans e)).2.1.1)(.agg(cellsOf xs).toArray)(fun w' hF=>jd rfl rfl hF rfl rfl(by rw [XS];rfl))?_
 go_frame
 refine qV rfl(fun _=>True)(fun _ _=>trivial)(.agg(cellsOf xs).toArray)(fun w' _=>qe rfl(by simp only [List.map_toArray,List.map_cons,List.map_nil];exact hbd.out))?_
 go_frame
 refine qD fun K1 hK1=> ?_
 go_simp
 refine(TAGOF.out _(P2.out _(Ext.refl _).drew).2.2).mono ?_
 rintro e w3⟨rfl,e3⟩
 refine hK1.out _ _ e3 ?_
 clear hK1 K1
 try go_frame
 refine qV rfl(fun _=>True)(fun _ _=>trivial)(.bool b)(fun w' _=>jcb hb.out ML XL rfl rfl rfl)?_
 go_frame
 refine seq_done ?_
 have P3:Hid(∀s,Ext w3 s→s.heap[g]? =some(.cells(cellsOf S).toArray 174(0,0))∧Ky s f xs∧Ext w s):=fun s e=>P2.out s((Ext.refl _).drew.trans(e3.trans e))
 clear P2 e3 TAGOF hb hbd
 have k0:=hd(P3.out _(Ext.refl _)).1
 cases b
 ·obtain rfl:R=T:=hR.out
  obtain rfl:er=0:=hE.out
  clear hR hE
  go_wp2_with(refine wpList_load_row rfl 174 _ rfl g rfl 174(cellsOf S).toArray(0,0)_ k0.out rfl rfl(by rw [SS];rfl)?_;go_frame)
  refine(TURN.out _(P3.out _(Ext.refl _)).2.2).mono ?_
  rintro e w4⟨A4,n4,c4,rfl,o4,e4⟩
  go_wp2_with fail
  go_ret2
  exact⟨A4,n4,c4,rfl,o4.lower(P3.out _(Ext.refl _)).2.2.size,(P3.out _ e4).2.2⟩
 ·obtain rfl:R= []:=hR.out
  obtain rfl:er=4:=hE.out
  clear hR hE
  go_wp2_with fail
  go_ret2
  exact⟨none,0,0,rfl,Own.nil _ _,(P3.out _(Ext.refl _)).2.2⟩
end
section
open Go.ChangeShapes Go.WideShapes Go.ChangeAt Go.RowKit Go.Deep Go.Maps
set_option maxRecDepth 100000
structure Rt where
 root:List UInt8
 own:List UInt8
 ho:Bool
 ot:List UInt8
 mt:Bool
 si:Bool
 sc:List UInt8
 sm:Int
 bf:Int
 ri:Bool
 rc:List UInt8
 rm:Int
structure Rt.ok(s:Rt):Prop where
 root:s.root.length=32
 own:s.own.length=64
 ot:s.ot.length=32
 sc:s.sc.length=32
 rc:s.rc.length=32
 sm:0≤s.sm∧s.sm≤4000000
 bf:0≤s.bf∧s.bf≤4000000
 rm:0≤s.rm∧s.rm≤4000000
def Rt.C(s:Rt)(kp:Nat):List Value:=
 cellsOf s.root ++(cellsOf s.own ++([.bool s.ho] ++(cellsOf s.ot ++([.bool s.mt, .bool s.si] ++(cellsOf s.sc ++([.int .i64 s.sm, .int .i64 s.bf, .bool s.ri] ++(cellsOf s.rc ++ [.int .i64 s.rm, .pointer(some⟨kp,0,none⟩)])))))))
theorem Rt.C_len{s:Rt}(h:s.ok)(kp:Nat):(s.C kp).length=200:=by
 simp [Rt.C,ja,h.root,h.own,h.ot,h.sc,h.rc]
theorem Rt.one(s:Rt)(kp:Nat):∀v∈s.C kp,v.oneCell'=true:=fun v hv=>by
 simp only [Rt.C,List.mem_append,List.mem_cons,List.not_mem_nil,or_false] at hv
 rcases hv with h |h |rfl |h |(rfl |rfl)|h |(rfl |rfl |rfl)|h |rfl |rfl
 all_goals first |rfl |exact JT _ _ h
def Rt.sec(s:Rt):List UInt8:=s.own.take 32
def Rt.pub(s:Rt):List UInt8:=s.own.drop 32
def qC(s:Rt)(p:List UInt8):List UInt8:=zt(p.take 32)s.ot
def qh(s:Rt)(p:List UInt8):Int:=jek(qC s p)
def qg(s:Rt)(p:List UInt8):Rt:=
 if qh s p=0 then{s with own:=p,root:=jM(jC s.root(qC s p))yF,bf:=s.sm,si:=true,sc:=keyL(macL s.root(qC s p))vG,sm:=0,mt:=false}else s
def YY(s:Rt)(q:List UInt8):List UInt8:=zt s.sec q
def YG(s:Rt)(q:List UInt8):Int:=jek(YY s q)
def y9(s:Rt)(q:List UInt8):Rt:=
 if YG s q=0 then{s with root:=jM(jC s.root(YY s q))yF,ri:=true,rc:=jM(jC s.root(YY s q))chnS,rm:=0,ho:=true,ot:=q,mt:=true}else s
structure Rz where
 s:Rt
 L:List Ke
 puts:Int
structure Rz.ok(t:Rz):Prop where
 s:t.s.ok
 L:t.L.length≤8
 puts:0≤t.puts
def jdx(L:List Ke)(puts:Int)(pk:List UInt8)(n:Int):Int:=if Jt L pk n=0 then puts+1 else puts
def yO(pk:List UInt8):List Ke→Int→Int→List(List UInt8)→List Ke×Int
 |L,p,_, []=>(L,p)
 |L,p,n,k :: r=>yO pk(jcz L⟨pk,n,k,p⟩)(jdx L p pk n)(n+1)r
def Jf(s:Rt)(up:Int):Int:=up - s.rm
def qN(s:Rt)(up:Int):Int:=if Jf s up < 0∨8 < Jf s up then 6 else 0
def jX(t:Rz)(up:Int):Rz:=
 if qN t.s up=0 then
  let m:=(Jf t.s up).toNat
  let a:=yO t.s.ot t.L t.puts t.s.rm(Y2 t.s.rc m)
  ⟨{t.s with rc:=Yg t.s.rc m,rm:=up},a.1,a.2⟩
 else t
def J5(k data body:List UInt8):List UInt8:=if body.length < 32 then [] else if YI k data(body.take(body.length - 32))=body.drop(body.length - 32)then sealT k(body.take(body.length - 32))else []
def J4(k data body:List UInt8):Int:=if body.length < 32 then 3 else if YI k data(body.take(body.length - 32))=body.drop(body.length - 32)then 0 else 4
def yW(s:Rt):Rt:= {s with rc:=jM s.rc vG,rm:=s.rm+1}
def jW(s:Rt):Rt:= {s with sc:=jM s.sc vG,sm:=s.sm+1}
def opA(t:Rz)(pk:List UInt8)(prev:Int):Rz×Int:=
 if t.s.ho=true∧pk=t.s.ot then(t,0)
 else
  let e1:=if t.s.ri=true∧t.s.rm < prev then qN t.s prev else 0
  if e1=0 then
   let t1:=if t.s.ri=true∧t.s.rm < prev then jX t prev else t
   (⟨y9 t1.s pk,t1.L,t1.puts⟩,YG t1.s pk)
  else(t,e1)
def opB(t:Rz)(n:Int):Rz×Int:=
 if t.s.ri=false∨n < t.s.rm then(t,5)
 else if qN t.s n=0 then(⟨yW(jX t n).s,(jX t n).L,(jX t n).puts⟩,0)else(t,qN t.s n)
def opK(t:Rz)(n:Int):List UInt8:=jM(jX t n).s.rc qd
def vY(t:Rz)(pk:List UInt8)(prev n:Int)(data body:List UInt8):Rz×List UInt8×Int:=
 if yY t.L pk n then(⟨t.s,yM t.L pk n,t.puts⟩,J5(yd t.L pk n).k data body,J4(yd t.L pk n).k data body)
 else
  let a:=opA t pk prev
  if a.2≠0 then(a.1, [],a.2)
  else
   let b:=opB a.1 n
   if b.2≠0 then(b.1, [],b.2)else(b.1,J5(opK a.1 n)data body,J4(opK a.1 n)data body)
def qb(bs pk:List UInt8)(prev n:Int):List UInt8:=qw [bs,zo pk prev.toNat n.toNat]
def yr(t:Rz)(bs pk:List UInt8)(prev n:Int)(body:List UInt8):Int:=if okH prev n then(vY t pk prev n(qb bs pk prev n)body).2.2 else 1
def Ym(t:Rz)(bs pk:List UInt8)(prev n:Int)(body:List UInt8):List UInt8:=if yr t bs pk prev n body=0 then(vY t pk prev n(qb bs pk prev n)body).2.1 else []
def ze(t:Rz)(bs pk:List UInt8)(prev n:Int)(body:List UInt8):Rz:=if yr t bs pk prev n body=0 then(vY t pk prev n(qb bs pk prev n)body).1 else t
def qL(s:Rt)(p:List UInt8):Rt:=if s.mt then qg s p else s
def qU(s:Rt)(p text:List UInt8):Int:=
 if s.si=false∧s.mt=false then 7 else if 300 < text.length then 1
 else if s.mt=true∧qh s p≠0 then qh s p else if okH(qL s p).bf(qL s p).sm then 0 else 1
end
end Go.Proofs.YtakpgbaijkhpmaaGreatDoor
