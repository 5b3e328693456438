import Derived.Test.YtakpgbaijkhpmaaGreatDoorPkAU
import Derived.Test.YtakpgbaijkhpmaaGreatDoorPkAK
namespace Go.Proofs.YtakpgbaijkhpmaaGreatDoor
section
open Go.ChangeShapes Go.WideShapes Go.ChangeAt Go.RowKit Go.Deep
set_option maxRecDepth 100000
theorem jfL(x l:Nat):qr x(qr l l)=mulP(qr x l)l:=by
 unfold qr
 rw [Nat.mul_mod_mod,Nat.mod_mul_mod,Nat.mul_assoc]
theorem Ur.so{w:World}{g r:Nat}{t:TypeId}{vs:List Nat}{C:Array Value}(h:Ur w g t vs)(hne:g≠r):Ur(w.setRow r C)g t vs:=(setRow_other _ _ _ _ hne).trans h
theorem Ur.q{w:World}{g:Nat}{t:TypeId}{vs:List Nat}(h:Ur w g t vs):Hid(∀s,Ext w s→Ur s g t vs):=fun s e=>h.kept e h.lt
theorem zY(w:World)(C:Array Value)(T:TypeId):Hid((w.alloc(Obj.cells C T)).heap[w.heap.size]? =some(.cells C T(0,0))):=heap_alloc_new _ _
theorem yI{a w:World}(e:Ext a w)(C:Array Value)(T:TypeId)(D:Array Value):Ext a((w.alloc(Obj.cells C T)).setRow w.heap.size D):=e.trans(below_setRow((Ext.refl w).alloc _)(Nat.le_refl _)_)
set_option maxHeartbeats 16000000 in
theorem jdF{ks ps:List UInt8}{w:World}(hk:ks.length=32)(hp:ps.length=32):
  Calls Tryz.prog 71 #[.agg(cellsOf ks).toArray, .agg(cellsOf ps).toArray] w fun e w'=>e= .returned(.agg(cellsOf(kL(multN ks(ofV ps)))).toArray)∧Ext w w':=by
 obtain⟨x,hx⟩:∃x,x=ofV ps:=⟨_,rfl⟩
 have OFA:Hid(∀W,Calls Tryz.prog 99 #[.agg(cellsOf ps).toArray] W fun e w'=>∃es,IsN es x∧e= .returned(.agg(jc es).toArray)∧Ext W w'):=fun W=>by rw [hx];exact jgu hp
 rw [← hx]
 obtain⟨B,hB⟩:∃B:Nat→Bool,B=fun m=>yj ks(254 - m):=⟨_,rfl⟩
 have BIT:Hid(∀(m n:Nat)(W:World),m+n=254→Calls Tryz.prog 100 #[.agg(cellsOf ks).toArray, .int .i64(n:Int)] W fun e w'=>e= .returned(.bool(B m))∧Ext W w'):=fun m n W h=>by
  have:=jeU(ks:=ks)(n:=n)(w:=W)hk(by omega)
  rw [hB]
  show Calls _ _ _ _ fun e w'=>e= .returned(.bool(yj ks(254 - m)))∧_
  rw [show 254 - m=n by omega]
  exact this
 obtain⟨S,hS⟩:∃S:Nat→StN,S=Zg x B:=⟨_,rfl⟩
 have S1:Hid(∀m,S(m+1)=YM(B m)(yL x(swapN(B m)(S m)))):=fun m=>by rw [hS];rfl
 have RES:Hid(jY ks x=qr(S 255).1(zK(S 255).2.2.1)):=by unfold Hid;rw [hS,hB];rfl
 have S0:Hid(S 0=(1,x,0,1)):=by unfold Hid;rw [hS];rfl
 clear hS hB hx
 have L_rk:=zw(jY ks x)
 have hrk:Hid(kL(jY ks x)=kL(qr(S 255).1(zK(S 255).2.2.1))):=by unfold Hid;rw [RES.out]
 clear RES
 generalize kL(jY ks x)=rk at *
 have S_rk:(cellsOf rk).toArray.size=32:=by simp [ja,L_rk]
 have O_rk:=ji rk
 have S_ks:(cellsOf ks).toArray.size=32:=by simp [ja,hk]
 have S_ps:(cellsOf ps).toArray.size=32:=by simp [ja,hp]
 have hal:=zx
 have hbz:=hd jd9
 have n_zn:=jjR
 generalize J6=zn at *
 have S_zn:=jn n_zn.len
 have O_zn:=jw zn
 have hb1:=hd jaw
 have n_ow:=jjj
 generalize jeL=ow at *
 have S_ow:=jn n_ow.len
 have O_ow:=jw ow
 have hbf:=hd jep
 have n_fw:=ji5
 generalize jkk=fw at *
 have S_fw:=jn n_fw.len
 have O_fw:=jw fw
 have hal2:∀w,(zeroValue 23).run Tryz.prog w= .ok(.agg(cellsOf(List.replicate 32 0)).toArray)w:=fun w=>by rw [jU];exact j2 w
 have L_zk:(List.replicate 32(0:UInt8)).length=32:=rfl
 generalize List.replicate 32(0:UInt8)=zk at *
 have S_zk:(cellsOf zk).toArray.size=32:=by simp [ja,L_zk]
 have B0:Hid(Ky(((w.alloc(Obj.cells(cellsOf ks).toArray 23)).alloc(Obj.cells(cellsOf ps).toArray 23)).alloc(Obj.cells(cellsOf zk).toArray 23))w.heap.size ks∧Ky(((w.alloc(Obj.cells(cellsOf ks).toArray 23)).alloc(Obj.cells(cellsOf ps).toArray 23)).alloc(Obj.cells(cellsOf zk).toArray 23))(w.heap.size+1)ps∧Ky(((w.alloc(Obj.cells(cellsOf ks).toArray 23)).alloc(Obj.cells(cellsOf ps).toArray 23)).alloc(Obj.cells(cellsOf zk).toArray 23))(w.heap.size+1+1)zk∧Ext w(((w.alloc(Obj.cells(cellsOf ks).toArray 23)).alloc(Obj.cells(cellsOf ps).toArray 23)).alloc(Obj.cells(cellsOf zk).toArray 23))):=⟨⟨jF _ _ _ _,hk⟩,⟨jH _ _ _ _,hp⟩,⟨jB _ _ _ _,L_zk⟩,(((Ext.refl w).alloc _).alloc _).alloc _⟩
 go_enter Tryz.func71,Tryz.ntmps71
 go_upto_region 1 with fail
 refine jg(fun W=>Ky W w.heap.size ks∧Ky W(w.heap.size+1)ps∧Ky W(w.heap.size+1+1)zk∧Ext w W)B0.out ?_
 clear B0
 rintro w0_⟨KS,KP,KZ,KE⟩
 go_wp2_with(refine wpList_load_row rfl 23 _ rfl(w.heap.size+1)rfl 23(cellsOf ps).toArray(0,0)_ KP.1 rfl rfl(by rw [S_ps];rfl)?_;go_frame)
 refine(OFA.out _).mono ?_
 rintro e u_⟨cx,n_cx,rfl,e1⟩
 have S_cx:=jn n_cx.len
 have O_cx:=jw cx
 have a1:=zY u_(jc zn).toArray 200
 have E_:=yI e1(jc zn).toArray 200(ucells cx).toArray
 go_upto_region 2 with(first
  |(refine wpList_store_row rfl 200 _ _ rfl u_.heap.size(jc cx).toArray rfl rfl 200 _ a1.out(by rw [S_cx];rfl)(by rw [S_cx,S_zn])O_cx ?_;simp only [Act.put]))
 obtain⟨g5,hg_⟩:∃g,g=u_.heap.size:=⟨_,rfl⟩
 have z5:w.heap.size+1+1 < g5:=by rw [hg_];exact Nat.lt_of_lt_of_le(jh KZ.1)e1.size
 refine jg(fun W=>Ur W g5 200 cx∧Ky W w.heap.size ks∧Ky W(w.heap.size+1)ps∧Ky W(w.heap.size+1+1)zk∧Ext w W)⟨by rw [hg_];exact setRow_heap _ _ _ _ _ _ a1.out,
   KS.ext E_,
   KP.ext E_,
   KZ.ext E_,
   KE.trans E_⟩?_
 rw [← hg_]
 clear KS KP KZ KE hg_ a1 E_ e1 OFA
 rintro w1_⟨K5,KS,KP,KZ,KE⟩
 have a1:=zY w1_(jc zn).toArray 200
 have E_:=yI(Ext.refl w1_)(jc zn).toArray 200(jc ow).toArray
 go_upto_region 3 with(first
  |(refine jm rfl _ _ rfl(jc ow).toArray(by simp only [List.map_toArray,List.map_cons,List.map_nil];exact hb1.out)?_;go_frame)
  |(refine wpList_store_row rfl 200 _ _ rfl w1_.heap.size(jc ow).toArray rfl rfl 200 _ a1.out(by rw [S_ow];rfl)(by rw [S_ow,S_zn])O_ow ?_;simp only [Act.put]))
 obtain⟨g6,hg_⟩:∃g,g=w1_.heap.size:=⟨_,rfl⟩
 have z6:g5 < g6:=by rw [hg_];exact K5.lt
 refine jg(fun W=>Ur W g5 200 cx∧Ur W g6 200 ow∧Ky W w.heap.size ks∧Ky W(w.heap.size+1)ps∧Ky W(w.heap.size+1+1)zk∧Ext w W)⟨K5.kept E_ K5.lt,
   by rw [hg_];exact setRow_heap _ _ _ _ _ _ a1.out,
   KS.ext E_,
   KP.ext E_,
   KZ.ext E_,
   KE.trans E_⟩?_
 rw [← hg_]
 clear K5 KS KP KZ KE hg_ a1 E_
 rintro w2_⟨K5,K6,KS,KP,KZ,KE⟩
 have a1:=zY w2_(jc zn).toArray 200
 have E_:=yI(Ext.refl w2_)(jc zn).toArray 200(jc cx).toArray
 go_upto_region 4 with(first
  |(refine wpList_load_row rfl 200 _ rfl g5 rfl 200(jc cx).toArray(0,0)_ K5 rfl rfl(by rw [S_cx];rfl)?_;go_frame)
  |(refine wpList_store_row rfl 200 _ _ rfl w2_.heap.size(jc cx).toArray rfl rfl 200 _ a1.out(by rw [S_cx];rfl)(by rw [S_cx,S_zn])O_cx ?_;simp only [Act.put]))
 obtain⟨g7,hg_⟩:∃g,g=w2_.heap.size:=⟨_,rfl⟩
 have z7:g6 < g7:=by rw [hg_];exact K6.lt
 refine jg(fun W=>Ur W g5 200 cx∧Ur W g6 200 ow∧Ur W g7 200 cx∧Ky W w.heap.size ks∧Ky W(w.heap.size+1)ps∧Ky W(w.heap.size+1+1)zk∧Ext w W)⟨K5.kept E_ K5.lt,
   K6.kept E_ K6.lt,
   by rw [hg_];exact setRow_heap _ _ _ _ _ _ a1.out,
   KS.ext E_,
   KP.ext E_,
   KZ.ext E_,
   KE.trans E_⟩?_
 rw [← hg_]
 clear K5 K6 KS KP KZ KE hg_ a1 E_
 rintro w3_⟨K5,K6,K7,KS,KP,KZ,KE⟩
 have a1:=zY w3_(jc zn).toArray 200
 have E_:=yI(Ext.refl w3_)(jc zn).toArray 200(jc zn).toArray
 go_upto_region 5 with(first
  |(refine jm rfl _ _ rfl(jc zn).toArray(by simp only [List.map_toArray,List.map_cons,List.map_nil];exact hbz.out)?_;go_frame)
  |(refine wpList_store_row rfl 200 _ _ rfl w3_.heap.size(jc zn).toArray rfl rfl 200 _ a1.out(by rw [S_zn];rfl)rfl O_zn ?_;simp only [Act.put]))
 obtain⟨g8,hg_⟩:∃g,g=w3_.heap.size:=⟨_,rfl⟩
 have z8:g7 < g8:=by rw [hg_];exact K7.lt
 refine jg(fun W=>Ur W g5 200 cx∧Ur W g6 200 ow∧Ur W g7 200 cx∧Ur W g8 200 zn∧Ky W w.heap.size ks∧Ky W(w.heap.size+1)ps∧Ky W(w.heap.size+1+1)zk∧Ext w W)⟨K5.kept E_ K5.lt,
   K6.kept E_ K6.lt,
   K7.kept E_ K7.lt,
   by rw [hg_];exact setRow_heap _ _ _ _ _ _ a1.out,
   KS.ext E_,
   KP.ext E_,
   KZ.ext E_,
   KE.trans E_⟩?_
 rw [← hg_]
 clear K5 K6 K7 KS KP KZ KE hg_ a1 E_
 rintro w4_⟨K5,K6,K7,K8,KS,KP,KZ,KE⟩
 have a1:=zY w4_(jc zn).toArray 200
 have E_:=yI(Ext.refl w4_)(jc zn).toArray 200(jc ow).toArray
 go_upto_region 6 with(first
  |(refine jm rfl _ _ rfl(jc ow).toArray(by simp only [List.map_toArray,List.map_cons,List.map_nil];exact hb1.out)?_;go_frame)
  |(refine wpList_store_row rfl 200 _ _ rfl w4_.heap.size(jc ow).toArray rfl rfl 200 _ a1.out(by rw [S_ow];rfl)(by rw [S_ow,S_zn])O_ow ?_;simp only [Act.put]))
 obtain⟨g9,hg_⟩:∃g,g=w4_.heap.size:=⟨_,rfl⟩
 have z9:g8 < g9:=by rw [hg_];exact K8.lt
 refine jg(fun W=>Ur W g5 200 cx∧Ur W g6 200 ow∧Ur W g7 200 cx∧Ur W g8 200 zn∧Ur W g9 200 ow∧Ky W w.heap.size ks∧Ky W(w.heap.size+1)ps∧Ky W(w.heap.size+1+1)zk∧Ext w W)⟨K5.kept E_ K5.lt,
   K6.kept E_ K6.lt,
   K7.kept E_ K7.lt,
   K8.kept E_ K8.lt,
   by rw [hg_];exact setRow_heap _ _ _ _ _ _ a1.out,
   KS.ext E_,
   KP.ext E_,
   KZ.ext E_,
   KE.trans E_⟩?_
 rw [← hg_]
 clear K5 K6 K7 K8 KS KP KZ KE hg_ a1 E_
 rintro w5_⟨K5,K6,K7,K8,K9,KS,KP,KZ,KE⟩
 have P3:Hid(∀s,Below g6 w5_ s→Ky s w.heap.size ks∧Ky s(w.heap.size+1+1)zk∧Ur s g5 200 cx∧Ext w s):=fun s e =>
  ⟨⟨(e.block _(by omega)).trans KS.1,KS.2⟩,⟨(e.block _(by omega)).trans KZ.1,KZ.2⟩,K5.kept e z6,Below.trans KE(e.mono(by omega))⟩
 clear KS KP KZ KE K5
 go_wp2_with fail
 go_loopw [10](fun iv wr=>∃(m:Nat)(c6 c7 c8 c9:List Nat),m≤255∧iv= .int .i64(254 - (m:Int))∧Ur wr g6 200 c6∧Ur wr g7 200 c7∧Ur wr g8 200 c8∧Ur wr g9 200 c9∧IsN c6(S m).1∧IsN c7(S m).2.1∧IsN c8(S m).2.2.1∧IsN c9(S m).2.2.2∧Below g6 w5_ wr)(fun iv _=>(intOf iv+1).toNat)
 case atStart =>
  exact⟨0,ow,cx,zn,ow,Nat.zero_le _,rfl,K6,K7,K8,K9,by rw [S0.out];exact n_ow,by rw [S0.out];exact n_cx,by rw [S0.out];exact n_zn,by rw [S0.out];exact n_ow,Below.refl _ _⟩
 case round =>
  clear K6 K7 K8 K9 S0
  obtain⟨m,c6,c7,c8,c9,hm,rfl,K6,K7,K8,K9,n6,n7,n8,n9,KB⟩ :=hrel
  by_cases hlt:m < 255
  ·obtain⟨n,hn⟩:∃n:Nat,m+n=254:=⟨254 - m,by omega⟩
   obtain⟨b,hb⟩:∃b:Int,b=254 - (m:Int):=⟨_,rfl⟩
   have hbn:(n:Int)=b:=by omega
   rw [← hb]
   have hbn1:Hid(b - 1=254 - ((m+1:Nat):Int)):=by unfold Hid;omega
   have hme:Hid((b - 1+1).toNat < (b+1).toNat):=by unfold Hid;omega
   have b0:(0:Int)≤b:=by omega
   have b1:b≤254:=by omega
   have bw:IntKind.i64.wrap(b - 1)=b - 1:=IntWalk.i64_in _(by omega)
   have BT:=hd(fun W=>BIT.out m n W hn)
   rw [hbn] at BT
   have hm1:Hid(m+1≤255):=by unfold Hid;omega
   clear BIT hn hbn hb hlt hm hrk
   have S_c6:=jn n6.len
   have S_c7:=jn n7.len
   have S_c8:=jn n8.len
   have S_c9:=jn n9.len
   have O_c6:=jw c6
   have O_c7:=jw c7
   have O_c8:=jw c8
   have O_c9:=jw c9
   obtain⟨va,hva⟩:∃v,v=(S m).1:=⟨_,rfl⟩
   obtain⟨vb,hvb⟩:∃v,v=(S m).2.1:=⟨_,rfl⟩
   obtain⟨vc,hvc⟩:∃v,v=(S m).2.2.1:=⟨_,rfl⟩
   obtain⟨vd,hvd⟩:∃v,v=(S m).2.2.2:=⟨_,rfl⟩
   rw [← hva] at n6
   rw [← hvb] at n7
   rw [← hvc] at n8
   rw [← hvd] at n9
   have SM:Hid(∀_:Unit,S m=(va,vb,vc,vd)):=fun _=>by rw [hva,hvb,hvc,hvd]
   clear hva hvb hvc hvd
   have S1m:Hid(∀_:Unit,S(m+1)=YM(B m)(stepN x(YM(B m)(va,vb,vc,vd)))):=fun _=>by rw [S1.out m,SM.out()]
   clear S1 SM
   have K5:=(P3.out _ KB).2.2.1
   rcases Bool.eq_false_or_eq_true(B m)with hbt |hbt
   ·rw [hbt] at BT S1m
    clear hbt
    have KX:=(P3.out _ KB).1
    go_wp2_with(refine wpList_load_row rfl 23 _ rfl w.heap.size rfl 23(cellsOf ks).toArray(0,0)_ KX.1 rfl rfl(by rw [S_ks];rfl)?_;go_frame)
    refine(BT.out _).mono ?_
    rintro e u_⟨rfl,e1⟩
    go_upto_region 10 with fail
    refine jg(fun W=>Ur W g5 200 cx∧Ur W g6 200 c6∧Ur W g7 200 c7∧Ur W g8 200 c8∧Ur W g9 200 c9∧Below g6 w5_ W)⟨K5.kept e1 K5.lt,
      K6.kept e1 K6.lt,
      K7.kept e1 K7.lt,
      K8.kept e1 K8.lt,
      K9.kept e1 K9.lt,
      Below.trans KB(e1.mono(Nat.le_of_lt K6.lt))⟩?_
    clear K5 K6 K7 K8 K9 KB KX e1
    rintro w7_⟨K5,K6,K7,K8,K9,KB⟩
    have a1:=zY w7_(jc zn).toArray 200
    have E_:=yI(Ext.refl w7_)(jc zn).toArray 200(jc c6).toArray
    go_upto_region 11 with(first
     |(refine wpList_load_row rfl 200 _ rfl g6 rfl 200(jc c6).toArray(0,0)_ K6 rfl rfl(by rw [S_c6];rfl)?_;go_frame)
     |(refine wpList_store_row rfl 200 _ _ rfl w7_.heap.size(ucells c6).toArray rfl rfl 200 _ a1.out(by rw [S_c6];rfl)(by rw [S_c6,S_zn])O_c6 ?_;simp only [Act.put]))
    obtain⟨g11,hg_⟩:∃g,g=w7_.heap.size:=⟨_,rfl⟩
    have z11:g9 < g11:=by rw [hg_];exact K9.lt
    refine jg(fun W=>Ur W g5 200 cx∧Ur W g6 200 c6∧Ur W g7 200 c7∧Ur W g8 200 c8∧Ur W g9 200 c9∧Ur W g11 200 c6∧Below g6 w5_ W)⟨K5.kept E_ K5.lt,
      K6.kept E_ K6.lt,
      K7.kept E_ K7.lt,
      K8.kept E_ K8.lt,
      K9.kept E_ K9.lt,
      by rw [hg_];exact setRow_heap _ _ _ _ _ _ a1.out,
      Below.trans KB(E_.mono(Nat.le_of_lt K6.lt))⟩?_
    rw [← hg_]
    clear K5 K6 K7 K8 K9 KB hg_ a1 E_
    rintro w8_⟨K5,K6,K7,K8,K9,K11,KB⟩
    go_upto_region 12 with(first
     |(refine wpList_load_row rfl 200 _ rfl g7 rfl 200(jc c7).toArray(0,0)_ K7 rfl rfl(by rw [S_c7];rfl)?_;go_frame)
     |(refine wpList_store_row rfl 200 _ _ rfl g6(jc c7).toArray rfl rfl 200 _ K6(by rw [S_c7];rfl)(by rw [S_c7,S_c6])O_c7 ?_;simp only [Act.put]))
    refine jg(fun W=>Ur W g5 200 cx∧Ur W g6 200 c7∧Ur W g7 200 c7∧Ur W g8 200 c8∧Ur W g9 200 c9∧Ur W g11 200 c6∧Below g6 w5_ W)⟨K5.so(by omega),
      setRow_heap _ _ _ _ _ _ K6,
      K7.so(by omega),
      K8.so(by omega),
      K9.so(by omega),
      K11.so(by omega),
      below_setRow KB(by omega)_⟩?_
    clear K5 K6 K7 K8 K9 K11 KB
    rintro w9_⟨K5,K6,K7,K8,K9,K11,KB⟩
    go_upto_region 13 with(first
     |(refine wpList_load_row rfl 200 _ rfl g11 rfl 200(jc c6).toArray(0,0)_ K11 rfl rfl(by rw [S_c6];rfl)?_;go_frame)
     |(refine wpList_store_row rfl 200 _ _ rfl g7(jc c6).toArray rfl rfl 200 _ K7(by rw [S_c6];rfl)(by rw [S_c6,S_c7])O_c6 ?_;simp only [Act.put]))
    refine jg(fun W=>Ur W g5 200 cx∧Ur W g6 200 c7∧Ur W g7 200 c6∧Ur W g8 200 c8∧Ur W g9 200 c9∧Ur W g11 200 c6∧Below g6 w5_ W)⟨K5.so(by omega),
      K6.so(by omega),
      setRow_heap _ _ _ _ _ _ K7,
      K8.so(by omega),
      K9.so(by omega),
      K11.so(by omega),
      below_setRow KB(by omega)_⟩?_
    clear K5 K6 K7 K8 K9 K11 KB
    rintro w10_⟨K5,K6,K7,K8,K9,K11,KB⟩
    go_upto_region 14 with(first
     |(refine wpList_load_row rfl 200 _ rfl g8 rfl 200(jc c8).toArray(0,0)_ K8 rfl rfl(by rw [S_c8];rfl)?_;go_frame)
     |(refine wpList_store_row rfl 200 _ _ rfl g11(jc c8).toArray rfl rfl 200 _ K11(by rw [S_c8];rfl)(by rw [S_c8,S_c6])O_c8 ?_;simp only [Act.put]))
    refine jg(fun W=>Ur W g5 200 cx∧Ur W g6 200 c7∧Ur W g7 200 c6∧Ur W g8 200 c8∧Ur W g9 200 c9∧Ur W g11 200 c8∧Below g6 w5_ W)⟨K5.so(by omega),
      K6.so(by omega),
      K7.so(by omega),
      K8.so(by omega),
      K9.so(by omega),
      setRow_heap _ _ _ _ _ _ K11,
      below_setRow KB(by omega)_⟩?_
    clear K5 K6 K7 K8 K9 K11 KB
    rintro w11_⟨K5,K6,K7,K8,K9,K11,KB⟩
    go_upto_region 15 with(first
     |(refine wpList_load_row rfl 200 _ rfl g9 rfl 200(jc c9).toArray(0,0)_ K9 rfl rfl(by rw [S_c9];rfl)?_;go_frame)
     |(refine wpList_store_row rfl 200 _ _ rfl g8(jc c9).toArray rfl rfl 200 _ K8(by rw [S_c9];rfl)(by rw [S_c9,S_c8])O_c9 ?_;simp only [Act.put]))
    refine jg(fun W=>Ur W g5 200 cx∧Ur W g6 200 c7∧Ur W g7 200 c6∧Ur W g8 200 c9∧Ur W g9 200 c9∧Ur W g11 200 c8∧Below g6 w5_ W)⟨K5.so(by omega),
      K6.so(by omega),
      K7.so(by omega),
      setRow_heap _ _ _ _ _ _ K8,
      K9.so(by omega),
      K11.so(by omega),
      below_setRow KB(by omega)_⟩?_
    clear K5 K6 K7 K8 K9 K11 KB
    rintro w12_⟨K5,K6,K7,K8,K9,K11,KB⟩
    go_upto_region 16 with(first
     |(refine wpList_load_row rfl 200 _ rfl g11 rfl 200(jc c8).toArray(0,0)_ K11 rfl rfl(by rw [S_c8];rfl)?_;go_frame)
     |(refine wpList_store_row rfl 200 _ _ rfl g9(jc c8).toArray rfl rfl 200 _ K9(by rw [S_c8];rfl)(by rw [S_c8,S_c9])O_c8 ?_;simp only [Act.put]))
    refine jg(fun W=>Ur W g5 200 cx∧Ur W g6 200 c7∧Ur W g7 200 c6∧Ur W g8 200 c9∧Ur W g9 200 c8∧Ur W g11 200 c8∧Below g6 w5_ W)⟨K5.so(by omega),
      K6.so(by omega),
      K7.so(by omega),
      K8.so(by omega),
      setRow_heap _ _ _ _ _ _ K9,
      K11.so(by omega),
      below_setRow KB(by omega)_⟩?_
    clear K5 K6 K7 K8 K9 K11 KB
    rintro w13_⟨K5,K6,K7,K8,K9,K11,KB⟩
    clear K11
    go_wp2_with(first
     |(refine wpList_load_row rfl 200 _ rfl g6 rfl 200(jc c7).toArray(0,0)_ K6 rfl rfl(by rw [S_c7];rfl)?_;go_frame)
     |(refine wpList_load_row rfl 200 _ rfl g8 rfl 200(jc c9).toArray(0,0)_ K8 rfl rfl(by rw [S_c9];rfl)?_;go_frame))
    refine(yn n7 n9).mono ?_
    rintro e u_⟨c_101,n_101,rfl,e1⟩
    obtain⟨v_102,hv_102⟩:∃v,v=yZ vb vd:=⟨_,rfl⟩
    rw [← hv_102] at n_101
    replace hv_102:=hd(fun _:Unit=>hv_102)
    have S_c_101:=jn n_101.len
    have O_c_101:=jw c_101
    have a1:=zY u_(jc zn).toArray 200
    have E_:=yI e1(jc zn).toArray 200(jc c_101).toArray
    go_upto_region 17 with(first
     |(refine wpList_store_row rfl 200 _ _ rfl u_.heap.size(jc c_101).toArray rfl rfl 200 _ a1.out(by rw [S_c_101];rfl)(by rw [S_c_101,S_zn])O_c_101 ?_;simp only [Act.put]))
    obtain⟨g12,hg_⟩:∃g,g=u_.heap.size:=⟨_,rfl⟩
    have z12:g9 < g12:=by rw [hg_];exact Nat.lt_of_lt_of_le K9.lt e1.size
    refine jg(fun W=>Ur W g5 200 cx∧Ur W g6 200 c7∧Ur W g7 200 c6∧Ur W g8 200 c9∧Ur W g9 200 c8∧Ur W g12 200 c_101∧Below g6 w5_ W)⟨K5.kept E_ K5.lt,
      K6.kept E_ K6.lt,
      K7.kept E_ K7.lt,
      K8.kept E_ K8.lt,
      K9.kept E_ K9.lt,
      by rw [hg_];exact setRow_heap _ _ _ _ _ _ a1.out,
      Below.trans KB(E_.mono(Nat.le_of_lt K6.lt))⟩?_
    rw [← hg_]
    clear K5 K6 K7 K8 K9 KB hg_ a1 E_ e1
    rintro w14_⟨K5,K6,K7,K8,K9,K12,KB⟩
    go_wp2_with(first
     |(refine wpList_load_row rfl 200 _ rfl g6 rfl 200(jc c7).toArray(0,0)_ K6 rfl rfl(by rw [S_c7];rfl)?_;go_frame)
     |(refine wpList_load_row rfl 200 _ rfl g8 rfl 200(jc c9).toArray(0,0)_ K8 rfl rfl(by rw [S_c9];rfl)?_;go_frame))
    refine(yo n7 n9).mono ?_
    rintro e u_⟨c_103,n_103,rfl,e1⟩
    obtain⟨v_104,hv_104⟩:∃v,v=zO vb vd:=⟨_,rfl⟩
    rw [← hv_104] at n_103
    replace hv_104:=hd(fun _:Unit=>hv_104)
    have S_c_103:=jn n_103.len
    have O_c_103:=jw c_103
    have a1:=zY u_(jc zn).toArray 200
    have E_:=yI e1(jc zn).toArray 200(jc c_103).toArray
    go_upto_region 18 with(first
     |(refine wpList_store_row rfl 200 _ _ rfl u_.heap.size(jc c_103).toArray rfl rfl 200 _ a1.out(by rw [S_c_103];rfl)(by rw [S_c_103,S_zn])O_c_103 ?_;simp only [Act.put]))
    obtain⟨g13,hg_⟩:∃g,g=u_.heap.size:=⟨_,rfl⟩
    have z13:g9 < g13:=by rw [hg_];exact Nat.lt_of_lt_of_le K9.lt e1.size
    refine jg(fun W=>Ur W g5 200 cx∧Ur W g6 200 c7∧Ur W g7 200 c6∧Ur W g8 200 c9∧Ur W g9 200 c8∧Ur W g12 200 c_101∧Ur W g13 200 c_103∧Below g6 w5_ W)⟨K5.kept E_ K5.lt,
      K6.kept E_ K6.lt,
      K7.kept E_ K7.lt,
      K8.kept E_ K8.lt,
      K9.kept E_ K9.lt,
      K12.kept E_ K12.lt,
      by rw [hg_];exact setRow_heap _ _ _ _ _ _ a1.out,
      Below.trans KB(E_.mono(Nat.le_of_lt K6.lt))⟩?_
    rw [← hg_]
    clear K5 K6 K7 K8 K9 K12 KB hg_ a1 E_ e1
    rintro w15_⟨K5,K6,K7,K8,K9,K12,K13,KB⟩
    go_wp2_with(first
     |(refine wpList_load_row rfl 200 _ rfl g12 rfl 200(jc c_101).toArray(0,0)_ K12 rfl rfl(by rw [S_c_101];rfl)?_;go_frame))
    refine(j9 n_101 n_101).mono ?_
    rintro e u_⟨c_105,n_105,rfl,e1⟩
    obtain⟨v_106,hv_106⟩:∃v,v=qr v_102 v_102:=⟨_,rfl⟩
    rw [← hv_106] at n_105
    replace hv_106:=hd(fun _:Unit=>hv_106)
    have S_c_105:=jn n_105.len
    have O_c_105:=jw c_105
    have a1:=zY u_(jc zn).toArray 200
    have E_:=yI e1(jc zn).toArray 200(jc c_105).toArray
    go_upto_region 19 with(first
     |(refine wpList_store_row rfl 200 _ _ rfl u_.heap.size(jc c_105).toArray rfl rfl 200 _ a1.out(by rw [S_c_105];rfl)(by rw [S_c_105,S_zn])O_c_105 ?_;simp only [Act.put]))
    obtain⟨g14,hg_⟩:∃g,g=u_.heap.size:=⟨_,rfl⟩
    have z14:g9 < g14:=by rw [hg_];exact Nat.lt_of_lt_of_le K9.lt e1.size
    refine jg(fun W=>Ur W g5 200 cx∧Ur W g6 200 c7∧Ur W g7 200 c6∧Ur W g8 200 c9∧Ur W g9 200 c8∧Ur W g12 200 c_101∧Ur W g13 200 c_103∧Ur W g14 200 c_105∧Below g6 w5_ W)⟨K5.kept E_ K5.lt,
      K6.kept E_ K6.lt,
      K7.kept E_ K7.lt,
      K8.kept E_ K8.lt,
      K9.kept E_ K9.lt,
      K12.kept E_ K12.lt,
      K13.kept E_ K13.lt,
      by rw [hg_];exact setRow_heap _ _ _ _ _ _ a1.out,
      Below.trans KB(E_.mono(Nat.le_of_lt K6.lt))⟩?_
    rw [← hg_]
    clear K5 K6 K7 K8 K9 K12 K13 KB hg_ a1 E_ e1
    rintro w16_⟨K5,K6,K7,K8,K9,K12,K13,K14,KB⟩
    go_wp2_with(first
     |(refine wpList_load_row rfl 200 _ rfl g13 rfl 200(jc c_103).toArray(0,0)_ K13 rfl rfl(by rw [S_c_103];rfl)?_;go_frame))
    refine(j9 n_103 n_103).mono ?_
    rintro e u_⟨c_107,n_107,rfl,e1⟩
    obtain⟨v_108,hv_108⟩:∃v,v=qr v_104 v_104:=⟨_,rfl⟩
    rw [← hv_108] at n_107
    replace hv_108:=hd(fun _:Unit=>hv_108)
    have S_c_107:=jn n_107.len
    have O_c_107:=jw c_107
    have a1:=zY u_(jc zn).toArray 200
    have E_:=yI e1(jc zn).toArray 200(jc c_107).toArray
    go_upto_region 20 with(first
     |(refine wpList_store_row rfl 200 _ _ rfl u_.heap.size(jc c_107).toArray rfl rfl 200 _ a1.out(by rw [S_c_107];rfl)(by rw [S_c_107,S_zn])O_c_107 ?_;simp only [Act.put]))
    obtain⟨g15,hg_⟩:∃g,g=u_.heap.size:=⟨_,rfl⟩
    have z15:g9 < g15:=by rw [hg_];exact Nat.lt_of_lt_of_le K9.lt e1.size
    refine jg(fun W=>Ur W g5 200 cx∧Ur W g6 200 c7∧Ur W g7 200 c6∧Ur W g8 200 c9∧Ur W g9 200 c8∧Ur W g12 200 c_101∧Ur W g13 200 c_103∧Ur W g14 200 c_105∧Ur W g15 200 c_107∧Below g6 w5_ W)⟨K5.kept E_ K5.lt,
      K6.kept E_ K6.lt,
      K7.kept E_ K7.lt,
      K8.kept E_ K8.lt,
      K9.kept E_ K9.lt,
      K12.kept E_ K12.lt,
      K13.kept E_ K13.lt,
      K14.kept E_ K14.lt,
      by rw [hg_];exact setRow_heap _ _ _ _ _ _ a1.out,
      Below.trans KB(E_.mono(Nat.le_of_lt K6.lt))⟩?_
    rw [← hg_]
    clear K5 K6 K7 K8 K9 K12 K13 K14 KB hg_ a1 E_ e1
    rintro w17_⟨K5,K6,K7,K8,K9,K12,K13,K14,K15,KB⟩
    go_wp2_with(first
     |(refine wpList_load_row rfl 200 _ rfl g14 rfl 200(jc c_105).toArray(0,0)_ K14 rfl rfl(by rw [S_c_105];rfl)?_;go_frame)
     |(refine wpList_load_row rfl 200 _ rfl g15 rfl 200(jc c_107).toArray(0,0)_ K15 rfl rfl(by rw [S_c_107];rfl)?_;go_frame))
    refine(yo n_105 n_107).mono ?_
    rintro e u_⟨c_109,n_109,rfl,e1⟩
    obtain⟨v_110,hv_110⟩:∃v,v=zO v_106 v_108:=⟨_,rfl⟩
    rw [← hv_110] at n_109
    replace hv_110:=hd(fun _:Unit=>hv_110)
    have S_c_109:=jn n_109.len
    have O_c_109:=jw c_109
    have a1:=zY u_(jc zn).toArray 200
    have E_:=yI e1(jc zn).toArray 200(jc c_109).toArray
    go_upto_region 21 with(first
     |(refine wpList_store_row rfl 200 _ _ rfl u_.heap.size(jc c_109).toArray rfl rfl 200 _ a1.out(by rw [S_c_109];rfl)(by rw [S_c_109,S_zn])O_c_109 ?_;simp only [Act.put]))
    obtain⟨g16,hg_⟩:∃g,g=u_.heap.size:=⟨_,rfl⟩
    have z16:g9 < g16:=by rw [hg_];exact Nat.lt_of_lt_of_le K9.lt e1.size
    refine jg(fun W=>Ur W g5 200 cx∧Ur W g6 200 c7∧Ur W g7 200 c6∧Ur W g8 200 c9∧Ur W g9 200 c8∧Ur W g12 200 c_101∧Ur W g13 200 c_103∧Ur W g14 200 c_105∧Ur W g15 200 c_107∧Ur W g16 200 c_109∧Below g6 w5_ W)⟨K5.kept E_ K5.lt,
      K6.kept E_ K6.lt,
      K7.kept E_ K7.lt,
      K8.kept E_ K8.lt,
      K9.kept E_ K9.lt,
      K12.kept E_ K12.lt,
      K13.kept E_ K13.lt,
      K14.kept E_ K14.lt,
      K15.kept E_ K15.lt,
      by rw [hg_];exact setRow_heap _ _ _ _ _ _ a1.out,
      Below.trans KB(E_.mono(Nat.le_of_lt K6.lt))⟩?_
    rw [← hg_]
    clear K5 K6 K7 K8 K9 K12 K13 K14 K15 KB hg_ a1 E_ e1
    rintro w18_⟨K5,K6,K7,K8,K9,K12,K13,K14,K15,K16,KB⟩
    have Q7:=K7.q
    have Q9:=K9.q
    have Q12:=K12.q
    refine qgF(R:=Ext)Ext.refl(fun _ _ _=>Ext.trans) [0,1,2,3,4,5] [6] [0,0,3,0,15,0,63] [true,true,true,true,true,true,false] ?_
    refine jl(fun _=>Ext.refl _)_ rfl(v:= .agg(jc c6).toArray)(d:=57)rfl rfl ?_ ?_
    ·intro a_ w_ hev hR hk
     have e7:a_.eval(.tmp 7)=_:=hk 7 rfl
     exact(jd rfl e7(Q7.out w_(Ext.trans(Ext.refl _).drew hR))rfl rfl(by rw [S_c6];rfl))
    refine jl(fun _=>Ext.refl _)_ rfl(v:= .agg(jc c8).toArray)(d:=58)rfl rfl ?_ ?_
    ·intro a_ w_ hev hR hk
     have e9:a_.eval(.tmp 9)=_:=hk 9 rfl
     exact(jd rfl e9(Q9.out w_(Ext.trans(Ext.refl _).drew hR))rfl rfl(by rw [S_c8];rfl))
    refine jx _ rfl(fun u _=>∃es,u= .agg(jc es).toArray∧IsN es(zO va vc))(d:=59)rfl(fun _ _ _ h _=>h)rfl ?_ ?_
    ·intro a_ w_ hev hR hk K1 hK1
     have e56:a_.eval(.tmp 56)=_:=hk 56 rfl
     have e57:a_.eval(.tmp 57)=_:=hk 57 rfl
     clear hk
     have f56:=jz.trans e56
     have f57:=jz.trans e57
     go_simp
     refine(yo n6 n8).mono ?_
     rintro e_ w2_⟨fs_,hf_,rfl,x_⟩
     exact hK1.out _ _ x_⟨fs_,rfl,hf_⟩
    refine jl(fun _=>Ext.refl _)_ rfl(v:= .agg(jc c_101).toArray)(d:=60)rfl rfl ?_ ?_
    ·intro a_ w_ hev hR hk
     have e12:a_.eval(.tmp 12)=_:=hk 12 rfl
     exact(jd rfl e12(Q12.out w_(Ext.trans(Ext.refl _).drew hR))rfl rfl(by rw [S_c_101];rfl))
    refine jx _ rfl(fun u _=>∃es,u= .agg(jc es).toArray∧IsN es(qr(zO va vc)v_102))(d:=61)rfl(fun _ _ _ h _=>h)rfl ?_ ?_
    ·intro a_ w_ hev hR hk K1 hK1
     obtain⟨es_58,e58,n58⟩:∃es,a_.eval(.tmp 58)= .agg(jc es).toArray∧IsN es _:=hk 58 rfl
     have e59:a_.eval(.tmp 59)=_:=hk 59 rfl
     clear hk
     have f58:=jz.trans e58
     have f59:=jz.trans e59
     go_simp
     refine(j9 n58 n_101).mono ?_
     rintro e_ w2_⟨fs_,hf_,rfl,x_⟩
     exact hK1.out _ _ x_⟨fs_,rfl,hf_⟩
    refine qX _ rfl(fun u w_=>∃g,u= .pointer(some⟨g,0,none⟩)∧w18_.drew.heap.size≤g∧w_.heap[g]? =some(.cells(jc zn).toArray 200(0,0)))(d:=18)rfl(fun _ _ _ h e=>by obtain⟨g,h1,h2,h3⟩ :=h;exact⟨g,h1,h2,(e.block g(jh h3)).trans h3⟩)rfl(by decide)(fun _ _ h=>by obtain⟨g,h1,h2,h3⟩ :=h;subst h1;exact⟨g,rfl,jh h3⟩)?_ ?_
    ·intro a_ w_ hev hR hk K1 hK1
     go_simp
     exact hK1.out _ _((Ext.refl _).alloc _)⟨_,rfl,hR.size,heap_alloc_new _ _⟩(fun _ q=>by cases q;exact Nat.le_refl _)
    intro v_ wq_ hR hV_ hN_
    obtain⟨hv5,hv4,hv3,hv2,hv1,hv0,_⟩ :=hV_
    replace hv0:v_ 0=_:=hv0
    replace hv1:v_ 1=_:=hv1
    skip
    replace hv3:v_ 3=_:=hv3
    skip
    skip
    dsimp only [putE,zu]
    obtain⟨es_2,hv2,hn_2⟩ :=hv2
    obtain⟨es_4,hv4,hn_4⟩ :=hv4
    obtain⟨g_5,hv5,gb_5,gc_5⟩ :=hv5
    clear hN_
    rw [hv0,hv1,hv2,hv3,hv4,hv5]
    go_frame
    clear hv0 hv1 hv2 hv3 hv4 hv5
    generalize es_4=c_111 at *
    have n_111:=hn_4
    clear hn_2 hn_4
    obtain⟨v_112,hv_112⟩:∃v,v=qr(zO va vc)v_102:=⟨_,rfl⟩
    rw [← hv_112] at n_111
    replace hv_112:=hd(fun _:Unit=>hv_112)
    have S_c_111:=jn n_111.len
    have O_c_111:=jw c_111
    refine qi(z:=6)_ rfl rfl(by kernel_rfl)?_
    intro K1 hK1
    refine wp_store_row _ _ _ rfl g_5(jc c_111).toArray rfl rfl 200(jc zn).toArray gc_5(by rw [S_c_111];rfl)(by rw [S_c_111,S_zn])O_c_111 ?_
    refine hK1.out _ _ ?_
    clear hK1 K1
    refine qQ(by kernel_rfl)?_
    have z17:g9 < g_5:=Nat.lt_of_lt_of_le K9.lt gb_5
    have E_:Ext w18_(wq_.setRow g_5(jc c_111).toArray):=below_setRow((Ext.refl w18_).drew.trans hR)gb_5 _
    refine ye(fun W=>Ur W g5 200 cx∧Ur W g6 200 c7∧Ur W g7 200 c6∧Ur W g8 200 c9∧Ur W g9 200 c8∧Ur W g12 200 c_101∧Ur W g13 200 c_103∧Ur W g14 200 c_105∧Ur W g15 200 c_107∧Ur W g16 200 c_109∧Ur W g_5 200 c_111∧Below g6 w5_ W)⟨K5.kept E_ K5.lt,
      K6.kept E_ K6.lt,
      K7.kept E_ K7.lt,
      K8.kept E_ K8.lt,
      K9.kept E_ K9.lt,
      K12.kept E_ K12.lt,
      K13.kept E_ K13.lt,
      K14.kept E_ K14.lt,
      K15.kept E_ K15.lt,
      K16.kept E_ K16.lt,
      setRow_heap _ _ _ _ _ _ gc_5,
      Below.trans KB(E_.mono(Nat.le_of_lt K6.lt))⟩?_
    clear K5 K6 K7 K8 K9 K12 K13 K14 K15 K16 KB E_ hR gc_5 gb_5 Q7 Q9 Q12
    rintro w19_⟨K5,K6,K7,K8,K9,K12,K13,K14,K15,K16,K17,KB⟩
    generalize g_5=g17 at *
    go_upto_region 22 with fail
    have Q7:=K7.q
    have Q9:=K9.q
    have Q13:=K13.q
    refine qgF(R:=Ext)Ext.refl(fun _ _ _=>Ext.trans) [0,1,2,3,4,5] [6] [0,0,3,0,15,0,63] [true,true,true,true,true,true,false] ?_
    refine jl(fun _=>Ext.refl _)_ rfl(v:= .agg(jc c6).toArray)(d:=62)rfl rfl ?_ ?_
    ·intro a_ w_ hev hR hk
     have e7:a_.eval(.tmp 7)=_:=hk 7 rfl
     exact(jd rfl e7(Q7.out w_(Ext.trans(Ext.refl _).drew hR))rfl rfl(by rw [S_c6];rfl))
    refine jl(fun _=>Ext.refl _)_ rfl(v:= .agg(jc c8).toArray)(d:=63)rfl rfl ?_ ?_
    ·intro a_ w_ hev hR hk
     have e9:a_.eval(.tmp 9)=_:=hk 9 rfl
     exact(jd rfl e9(Q9.out w_(Ext.trans(Ext.refl _).drew hR))rfl rfl(by rw [S_c8];rfl))
    refine jx _ rfl(fun u _=>∃es,u= .agg(jc es).toArray∧IsN es(yZ va vc))(d:=64)rfl(fun _ _ _ h _=>h)rfl ?_ ?_
    ·intro a_ w_ hev hR hk K1 hK1
     have e61:a_.eval(.tmp 61)=_:=hk 61 rfl
     have e62:a_.eval(.tmp 62)=_:=hk 62 rfl
     clear hk
     have f61:=jz.trans e61
     have f62:=jz.trans e62
     go_simp
     refine(yn n6 n8).mono ?_
     rintro e_ w2_⟨fs_,hf_,rfl,x_⟩
     exact hK1.out _ _ x_⟨fs_,rfl,hf_⟩
    refine jl(fun _=>Ext.refl _)_ rfl(v:= .agg(jc c_103).toArray)(d:=65)rfl rfl ?_ ?_
    ·intro a_ w_ hev hR hk
     have e13:a_.eval(.tmp 13)=_:=hk 13 rfl
     exact(jd rfl e13(Q13.out w_(Ext.trans(Ext.refl _).drew hR))rfl rfl(by rw [S_c_103];rfl))
    refine jx _ rfl(fun u _=>∃es,u= .agg(jc es).toArray∧IsN es(qr(yZ va vc)v_104))(d:=66)rfl(fun _ _ _ h _=>h)rfl ?_ ?_
    ·intro a_ w_ hev hR hk K1 hK1
     obtain⟨es_63,e63,n63⟩:∃es,a_.eval(.tmp 63)= .agg(jc es).toArray∧IsN es _:=hk 63 rfl
     have e64:a_.eval(.tmp 64)=_:=hk 64 rfl
     clear hk
     have f63:=jz.trans e63
     have f64:=jz.trans e64
     go_simp
     refine(j9 n63 n_103).mono ?_
     rintro e_ w2_⟨fs_,hf_,rfl,x_⟩
     exact hK1.out _ _ x_⟨fs_,rfl,hf_⟩
    refine qX _ rfl(fun u w_=>∃g,u= .pointer(some⟨g,0,none⟩)∧w19_.drew.heap.size≤g∧w_.heap[g]? =some(.cells(jc zn).toArray 200(0,0)))(d:=19)rfl(fun _ _ _ h e=>by obtain⟨g,h1,h2,h3⟩ :=h;exact⟨g,h1,h2,(e.block g(jh h3)).trans h3⟩)rfl(by decide)(fun _ _ h=>by obtain⟨g,h1,h2,h3⟩ :=h;subst h1;exact⟨g,rfl,jh h3⟩)?_ ?_
    ·intro a_ w_ hev hR hk K1 hK1
     go_simp
     exact hK1.out _ _((Ext.refl _).alloc _)⟨_,rfl,hR.size,heap_alloc_new _ _⟩(fun _ q=>by cases q;exact Nat.le_refl _)
    intro v_ wq_ hR hV_ hN_
    obtain⟨hv5,hv4,hv3,hv2,hv1,hv0,_⟩ :=hV_
    replace hv0:v_ 0=_:=hv0
    replace hv1:v_ 1=_:=hv1
    skip
    replace hv3:v_ 3=_:=hv3
    skip
    skip
    dsimp only [putE,zu]
    obtain⟨es_2,hv2,hn_2⟩ :=hv2
    obtain⟨es_4,hv4,hn_4⟩ :=hv4
    obtain⟨g_5,hv5,gb_5,gc_5⟩ :=hv5
    clear hN_
    rw [hv0,hv1,hv2,hv3,hv4,hv5]
    go_frame
    clear hv0 hv1 hv2 hv3 hv4 hv5
    generalize es_4=c_113 at *
    have n_113:=hn_4
    clear hn_2 hn_4
    obtain⟨v_114,hv_114⟩:∃v,v=qr(yZ va vc)v_104:=⟨_,rfl⟩
    rw [← hv_114] at n_113
    replace hv_114:=hd(fun _:Unit=>hv_114)
    have S_c_113:=jn n_113.len
    have O_c_113:=jw c_113
    refine qi(z:=6)_ rfl rfl(by kernel_rfl)?_
    intro K1 hK1
    refine wp_store_row _ _ _ rfl g_5(jc c_113).toArray rfl rfl 200(jc zn).toArray gc_5(by rw [S_c_113];rfl)(by rw [S_c_113,S_zn])O_c_113 ?_
    refine hK1.out _ _ ?_
    clear hK1 K1
    refine qQ(by kernel_rfl)?_
    have z18:g9 < g_5:=Nat.lt_of_lt_of_le K9.lt gb_5
    have E_:Ext w19_(wq_.setRow g_5(jc c_113).toArray):=below_setRow((Ext.refl w19_).drew.trans hR)gb_5 _
    refine ye(fun W=>Ur W g5 200 cx∧Ur W g6 200 c7∧Ur W g7 200 c6∧Ur W g8 200 c9∧Ur W g9 200 c8∧Ur W g12 200 c_101∧Ur W g13 200 c_103∧Ur W g14 200 c_105∧Ur W g15 200 c_107∧Ur W g16 200 c_109∧Ur W g17 200 c_111∧Ur W g_5 200 c_113∧Below g6 w5_ W)⟨K5.kept E_ K5.lt,
      K6.kept E_ K6.lt,
      K7.kept E_ K7.lt,
      K8.kept E_ K8.lt,
      K9.kept E_ K9.lt,
      K12.kept E_ K12.lt,
      K13.kept E_ K13.lt,
      K14.kept E_ K14.lt,
      K15.kept E_ K15.lt,
      K16.kept E_ K16.lt,
      K17.kept E_ K17.lt,
      setRow_heap _ _ _ _ _ _ gc_5,
      Below.trans KB(E_.mono(Nat.le_of_lt K6.lt))⟩?_
    clear K5 K6 K7 K8 K9 K12 K13 K14 K15 K16 K17 KB E_ hR gc_5 gb_5 Q7 Q9 Q13
    rintro w20_⟨K5,K6,K7,K8,K9,K12,K13,K14,K15,K16,K17,K18,KB⟩
    generalize g_5=g18 at *
    clear K12
    clear K13
    go_wp2_with(first
     |(refine wpList_load_row rfl 200 _ rfl g17 rfl 200(jc c_111).toArray(0,0)_ K17 rfl rfl(by rw [S_c_111];rfl)?_;go_frame)
     |(refine wpList_load_row rfl 200 _ rfl g18 rfl 200(jc c_113).toArray(0,0)_ K18 rfl rfl(by rw [S_c_113];rfl)?_;go_frame))
    refine(yn n_111 n_113).mono ?_
    rintro e u_⟨c_115,n_115,rfl,e1⟩
    obtain⟨v_116,hv_116⟩:∃v,v=yZ v_112 v_114:=⟨_,rfl⟩
    rw [← hv_116] at n_115
    replace hv_116:=hd(fun _:Unit=>hv_116)
    have S_c_115:=jn n_115.len
    have O_c_115:=jw c_115
    have a1:=zY u_(jc zn).toArray 200
    have E_:=yI e1(jc zn).toArray 200(jc c_115).toArray
    go_upto_region 24 with(first
     |(refine wpList_store_row rfl 200 _ _ rfl u_.heap.size(jc c_115).toArray rfl rfl 200 _ a1.out(by rw [S_c_115];rfl)(by rw [S_c_115,S_zn])O_c_115 ?_;simp only [Act.put]))
    obtain⟨g19,hg_⟩:∃g,g=u_.heap.size:=⟨_,rfl⟩
    have z19:g9 < g19:=by rw [hg_];exact Nat.lt_of_lt_of_le K9.lt e1.size
    refine jg(fun W=>Ur W g5 200 cx∧Ur W g6 200 c7∧Ur W g7 200 c6∧Ur W g8 200 c9∧Ur W g9 200 c8∧Ur W g14 200 c_105∧Ur W g15 200 c_107∧Ur W g16 200 c_109∧Ur W g17 200 c_111∧Ur W g18 200 c_113∧Ur W g19 200 c_115∧Below g6 w5_ W)⟨K5.kept E_ K5.lt,
      K6.kept E_ K6.lt,
      K7.kept E_ K7.lt,
      K8.kept E_ K8.lt,
      K9.kept E_ K9.lt,
      K14.kept E_ K14.lt,
      K15.kept E_ K15.lt,
      K16.kept E_ K16.lt,
      K17.kept E_ K17.lt,
      K18.kept E_ K18.lt,
      by rw [hg_];exact setRow_heap _ _ _ _ _ _ a1.out,
      Below.trans KB(E_.mono(Nat.le_of_lt K6.lt))⟩?_
    rw [← hg_]
    clear K5 K6 K7 K8 K9 K14 K15 K16 K17 K18 KB hg_ a1 E_ e1
    rintro w21_⟨K5,K6,K7,K8,K9,K14,K15,K16,K17,K18,K19,KB⟩
    go_wp2_with(first
     |(refine wpList_load_row rfl 200 _ rfl g17 rfl 200(jc c_111).toArray(0,0)_ K17 rfl rfl(by rw [S_c_111];rfl)?_;go_frame)
     |(refine wpList_load_row rfl 200 _ rfl g18 rfl 200(jc c_113).toArray(0,0)_ K18 rfl rfl(by rw [S_c_113];rfl)?_;go_frame))
    refine(yo n_111 n_113).mono ?_
    rintro e u_⟨c_117,n_117,rfl,e1⟩
    obtain⟨v_118,hv_118⟩:∃v,v=zO v_112 v_114:=⟨_,rfl⟩
    rw [← hv_118] at n_117
    replace hv_118:=hd(fun _:Unit=>hv_118)
    have S_c_117:=jn n_117.len
    have O_c_117:=jw c_117
    have a1:=zY u_(jc zn).toArray 200
    have E_:=yI e1(jc zn).toArray 200(jc c_117).toArray
    go_upto_region 25 with(first
     |(refine wpList_store_row rfl 200 _ _ rfl u_.heap.size(jc c_117).toArray rfl rfl 200 _ a1.out(by rw [S_c_117];rfl)(by rw [S_c_117,S_zn])O_c_117 ?_;simp only [Act.put]))
    obtain⟨g20,hg_⟩:∃g,g=u_.heap.size:=⟨_,rfl⟩
    have z20:g9 < g20:=by rw [hg_];exact Nat.lt_of_lt_of_le K9.lt e1.size
    refine jg(fun W=>Ur W g5 200 cx∧Ur W g6 200 c7∧Ur W g7 200 c6∧Ur W g8 200 c9∧Ur W g9 200 c8∧Ur W g14 200 c_105∧Ur W g15 200 c_107∧Ur W g16 200 c_109∧Ur W g17 200 c_111∧Ur W g18 200 c_113∧Ur W g19 200 c_115∧Ur W g20 200 c_117∧Below g6 w5_ W)⟨K5.kept E_ K5.lt,
      K6.kept E_ K6.lt,
      K7.kept E_ K7.lt,
      K8.kept E_ K8.lt,
      K9.kept E_ K9.lt,
      K14.kept E_ K14.lt,
      K15.kept E_ K15.lt,
      K16.kept E_ K16.lt,
      K17.kept E_ K17.lt,
      K18.kept E_ K18.lt,
      K19.kept E_ K19.lt,
      by rw [hg_];exact setRow_heap _ _ _ _ _ _ a1.out,
      Below.trans KB(E_.mono(Nat.le_of_lt K6.lt))⟩?_
    rw [← hg_]
    clear K5 K6 K7 K8 K9 K14 K15 K16 K17 K18 K19 KB hg_ a1 E_ e1
    rintro w22_⟨K5,K6,K7,K8,K9,K14,K15,K16,K17,K18,K19,K20,KB⟩
    clear K17
    clear K18
    go_wp2_with(first
     |(refine wpList_load_row rfl 200 _ rfl g19 rfl 200(jc c_115).toArray(0,0)_ K19 rfl rfl(by rw [S_c_115];rfl)?_;go_frame))
    refine(j9 n_115 n_115).mono ?_
    rintro e u_⟨c_119,n_119,rfl,e1⟩
    obtain⟨v_120,hv_120⟩:∃v,v=qr v_116 v_116:=⟨_,rfl⟩
    rw [← hv_120] at n_119
    replace hv_120:=hd(fun _:Unit=>hv_120)
    have S_c_119:=jn n_119.len
    have O_c_119:=jw c_119
    have mK5:=K5.kept e1 K5.lt
    have mK6:=K6.kept e1 K6.lt
    have mK7:=K7.kept e1 K7.lt
    have mK8:=K8.kept e1 K8.lt
    have mK9:=K9.kept e1 K9.lt
    have mK14:=K14.kept e1 K14.lt
    have mK15:=K15.kept e1 K15.lt
    have mK16:=K16.kept e1 K16.lt
    have mK19:=K19.kept e1 K19.lt
    have mK20:=K20.kept e1 K20.lt
    have mKB:=Below.trans KB(e1.mono(Nat.le_of_lt K6.lt))
    go_upto_region 26 with(first
     |(refine wpList_store_row rfl 200 _ _ rfl g7(jc c_119).toArray rfl rfl 200 _ mK7(by rw [S_c_119];rfl)(by rw [S_c_119,S_c6])O_c_119 ?_;simp only [Act.put]))
    refine jg(fun W=>Ur W g5 200 cx∧Ur W g6 200 c7∧Ur W g7 200 c_119∧Ur W g8 200 c9∧Ur W g9 200 c8∧Ur W g14 200 c_105∧Ur W g15 200 c_107∧Ur W g16 200 c_109∧Ur W g19 200 c_115∧Ur W g20 200 c_117∧Below g6 w5_ W)⟨mK5.so(by omega),
      mK6.so(by omega),
      setRow_heap _ _ _ _ _ _ mK7,
      mK8.so(by omega),
      mK9.so(by omega),
      mK14.so(by omega),
      mK15.so(by omega),
      mK16.so(by omega),
      mK19.so(by omega),
      mK20.so(by omega),
      below_setRow mKB(by omega)_⟩?_
    clear K5 K6 K7 K8 K9 K14 K15 K16 K19 K20 KB e1 mK5 mK6 mK7 mK8 mK9 mK14 mK15 mK16 mK19 mK20 mKB
    rintro w23_⟨K5,K6,K7,K8,K9,K14,K15,K16,K19,K20,KB⟩
    clear K19
    have Q5:=K5.q
    have Q20:=K20.q
    refine qgF(R:=Ext)Ext.refl(fun _ _ _=>Ext.trans) [0,1,2,3,4] [5] [0,0,0,6,15,31] [true,true,true,true,true,false] ?_
    refine jl(fun _=>Ext.refl _)_ rfl(v:= .agg(jc cx).toArray)(d:=76)rfl rfl ?_ ?_
    ·intro a_ w_ hev hR hk
     have e5:a_.eval(.tmp 5)=_:=hk 5 rfl
     exact(jd rfl e5(Q5.out w_(Ext.trans(Ext.refl _).drew hR))rfl rfl(by rw [S_cx];rfl))
    refine jl(fun _=>Ext.refl _)_ rfl(v:= .agg(jc c_117).toArray)(d:=77)rfl rfl ?_ ?_
    ·intro a_ w_ hev hR hk
     have e20:a_.eval(.tmp 20)=_:=hk 20 rfl
     exact(jd rfl e20(Q20.out w_(Ext.trans(Ext.refl _).drew hR))rfl rfl(by rw [S_c_117];rfl))
    refine jl(fun _=>Ext.refl _)_ rfl(v:= .agg(jc c_117).toArray)(d:=78)rfl rfl ?_ ?_
    ·intro a_ w_ hev hR hk
     have e20:a_.eval(.tmp 20)=_:=hk 20 rfl
     exact(jd rfl e20(Q20.out w_(Ext.trans(Ext.refl _).drew hR))rfl rfl(by rw [S_c_117];rfl))
    refine jx _ rfl(fun u _=>∃es,u= .agg(jc es).toArray∧IsN es(qr v_118 v_118))(d:=79)rfl(fun _ _ _ h _=>h)rfl ?_ ?_
    ·intro a_ w_ hev hR hk K1 hK1
     have e76:a_.eval(.tmp 76)=_:=hk 76 rfl
     have e77:a_.eval(.tmp 77)=_:=hk 77 rfl
     clear hk
     have f76:=jz.trans e76
     have f77:=jz.trans e77
     go_simp
     refine(j9 n_117 n_117).mono ?_
     rintro e_ w2_⟨fs_,hf_,rfl,x_⟩
     exact hK1.out _ _ x_⟨fs_,rfl,hf_⟩
    refine jx _ rfl(fun u _=>∃es,u= .agg(jc es).toArray∧IsN es(qr x(qr v_118 v_118)))(d:=80)rfl(fun _ _ _ h _=>h)rfl ?_ ?_
    ·intro a_ w_ hev hR hk K1 hK1
     have e75:a_.eval(.tmp 75)=_:=hk 75 rfl
     obtain⟨es_78,e78,n78⟩:∃es,a_.eval(.tmp 78)= .agg(jc es).toArray∧IsN es _:=hk 78 rfl
     clear hk
     have f75:=jz.trans e75
     have f78:=jz.trans e78
     go_simp
     refine(j9 n_cx n78).mono ?_
     rintro e_ w2_⟨fs_,hf_,rfl,x_⟩
     exact hK1.out _ _ x_⟨fs_,rfl,hf_⟩
    intro v_ wq_ hR hV_ hN_
    obtain⟨hv4,hv3,hv2,hv1,hv0,_⟩ :=hV_
    replace hv0:v_ 0=_:=hv0
    replace hv1:v_ 1=_:=hv1
    replace hv2:v_ 2=_:=hv2
    skip
    skip
    dsimp only [putE,zu]
    obtain⟨es_3,hv3,hn_3⟩ :=hv3
    obtain⟨es_4,hv4,hn_4⟩ :=hv4
    clear hN_
    rw [hv0,hv1,hv2,hv3,hv4]
    go_frame
    clear hv0 hv1 hv2 hv3 hv4
    generalize es_4=c_121 at *
    have n_121:=hn_4
    clear hn_3 hn_4
    obtain⟨v_122,hv_122⟩:∃v,v=qr x(qr v_118 v_118):=⟨_,rfl⟩
    rw [← hv_122] at n_121
    replace hv_122:=hd(fun _:Unit=>hv_122)
    have S_c_121:=jn n_121.len
    have O_c_121:=jw c_121
    have mm_:=K9.kept((Ext.refl w23_).drew.trans hR)K9.lt
    refine qi(z:=5)_ rfl rfl(by kernel_rfl)?_
    intro K1 hK1
    refine wp_store_row _ _ _ rfl g9(jc c_121).toArray rfl rfl 200(jc c8).toArray mm_(by rw [S_c_121];rfl)(by rw [S_c_121,S_c8])O_c_121 ?_
    refine hK1.out _ _ ?_
    clear hK1 K1
    refine qQ(by kernel_rfl)?_
    have mK5:=K5.kept((Ext.refl w23_).drew.trans hR)K5.lt
    have mK6:=K6.kept((Ext.refl w23_).drew.trans hR)K6.lt
    have mK7:=K7.kept((Ext.refl w23_).drew.trans hR)K7.lt
    have mK8:=K8.kept((Ext.refl w23_).drew.trans hR)K8.lt
    have mK9:=K9.kept((Ext.refl w23_).drew.trans hR)K9.lt
    have mK14:=K14.kept((Ext.refl w23_).drew.trans hR)K14.lt
    have mK15:=K15.kept((Ext.refl w23_).drew.trans hR)K15.lt
    have mK16:=K16.kept((Ext.refl w23_).drew.trans hR)K16.lt
    have mK20:=K20.kept((Ext.refl w23_).drew.trans hR)K20.lt
    have mKB:=Below.trans KB(((Ext.refl w23_).drew.trans hR).mono(Nat.le_of_lt K6.lt))
    refine ye(fun W=>Ur W g5 200 cx∧Ur W g6 200 c7∧Ur W g7 200 c_119∧Ur W g8 200 c9∧Ur W g9 200 c_121∧Ur W g14 200 c_105∧Ur W g15 200 c_107∧Ur W g16 200 c_109∧Ur W g20 200 c_117∧Below g6 w5_ W)⟨mK5.so(by omega),
      mK6.so(by omega),
      mK7.so(by omega),
      mK8.so(by omega),
      setRow_heap _ _ _ _ _ _ mK9,
      mK14.so(by omega),
      mK15.so(by omega),
      mK16.so(by omega),
      mK20.so(by omega),
      below_setRow mKB(by omega)_⟩?_
    clear K5 K6 K7 K8 K9 K14 K15 K16 K20 KB mm_ hR mK5 mK6 mK7 mK8 mK9 mK14 mK15 mK16 mK20 mKB Q5 Q20
    rintro w24_⟨K5,K6,K7,K8,K9,K14,K15,K16,K20,KB⟩
    clear K20
    go_wp2_with(first
     |(refine wpList_load_row rfl 200 _ rfl g14 rfl 200(jc c_105).toArray(0,0)_ K14 rfl rfl(by rw [S_c_105];rfl)?_;go_frame)
     |(refine wpList_load_row rfl 200 _ rfl g15 rfl 200(jc c_107).toArray(0,0)_ K15 rfl rfl(by rw [S_c_107];rfl)?_;go_frame))
    refine(j9 n_105 n_107).mono ?_
    rintro e u_⟨c_123,n_123,rfl,e1⟩
    obtain⟨v_124,hv_124⟩:∃v,v=qr v_106 v_108:=⟨_,rfl⟩
    rw [← hv_124] at n_123
    replace hv_124:=hd(fun _:Unit=>hv_124)
    have S_c_123:=jn n_123.len
    have O_c_123:=jw c_123
    have mK5:=K5.kept e1 K5.lt
    have mK6:=K6.kept e1 K6.lt
    have mK7:=K7.kept e1 K7.lt
    have mK8:=K8.kept e1 K8.lt
    have mK9:=K9.kept e1 K9.lt
    have mK14:=K14.kept e1 K14.lt
    have mK15:=K15.kept e1 K15.lt
    have mK16:=K16.kept e1 K16.lt
    have mKB:=Below.trans KB(e1.mono(Nat.le_of_lt K6.lt))
    go_upto_region 28 with(first
     |(refine wpList_store_row rfl 200 _ _ rfl g6(jc c_123).toArray rfl rfl 200 _ mK6(by rw [S_c_123];rfl)(by rw [S_c_123,S_c7])O_c_123 ?_;simp only [Act.put]))
    refine jg(fun W=>Ur W g5 200 cx∧Ur W g6 200 c_123∧Ur W g7 200 c_119∧Ur W g8 200 c9∧Ur W g9 200 c_121∧Ur W g14 200 c_105∧Ur W g15 200 c_107∧Ur W g16 200 c_109∧Below g6 w5_ W)⟨mK5.so(by omega),
      setRow_heap _ _ _ _ _ _ mK6,
      mK7.so(by omega),
      mK8.so(by omega),
      mK9.so(by omega),
      mK14.so(by omega),
      mK15.so(by omega),
      mK16.so(by omega),
      below_setRow mKB(by omega)_⟩?_
    clear K5 K6 K7 K8 K9 K14 K15 K16 KB e1 mK5 mK6 mK7 mK8 mK9 mK14 mK15 mK16 mKB
    rintro w25_⟨K5,K6,K7,K8,K9,K14,K15,K16,KB⟩
    clear K15
    have Q14:=K14.q
    have Q16:=K16.q
    refine qgF(R:=Ext)Ext.refl(fun _ _ _=>Ext.trans) [0,1,2,3,4,5,6] [7] [0,0,0,0,12,30,63,127] [true,true,true,true,true,true,true,false] ?_
    refine jl(fun _=>Ext.refl _)_ rfl(v:= .agg(jc c_109).toArray)(d:=84)rfl rfl ?_ ?_
    ·intro a_ w_ hev hR hk
     have e16:a_.eval(.tmp 16)=_:=hk 16 rfl
     exact(jd rfl e16(Q16.out w_(Ext.trans(Ext.refl _).drew hR))rfl rfl(by rw [S_c_109];rfl))
    refine jl(fun _=>Ext.refl _)_ rfl(v:= .agg(jc c_105).toArray)(d:=85)rfl rfl ?_ ?_
    ·intro a_ w_ hev hR hk
     have e14:a_.eval(.tmp 14)=_:=hk 14 rfl
     exact(jd rfl e14(Q14.out w_(Ext.trans(Ext.refl _).drew hR))rfl rfl(by rw [S_c_105];rfl))
    refine jl(fun _=>Ext.refl _)_ rfl(v:= .agg(jc fw).toArray)(d:=86)rfl rfl ?_ ?_
    ·intro a_ w_ hev hR hk
     exact(qe rfl(by simp only [List.map_toArray,List.map_cons,List.map_nil,hev.1];exact hbf.out))
    refine jl(fun _=>Ext.refl _)_ rfl(v:= .agg(jc c_109).toArray)(d:=87)rfl rfl ?_ ?_
    ·intro a_ w_ hev hR hk
     have e16:a_.eval(.tmp 16)=_:=hk 16 rfl
     exact(jd rfl e16(Q16.out w_(Ext.trans(Ext.refl _).drew hR))rfl rfl(by rw [S_c_109];rfl))
    refine jx _ rfl(fun u _=>∃es,u= .agg(jc es).toArray∧IsN es(qr 121665 v_110))(d:=88)rfl(fun _ _ _ h _=>h)rfl ?_ ?_
    ·intro a_ w_ hev hR hk K1 hK1
     have e85:a_.eval(.tmp 85)=_:=hk 85 rfl
     have e86:a_.eval(.tmp 86)=_:=hk 86 rfl
     clear hk
     have f85:=jz.trans e85
     have f86:=jz.trans e86
     go_simp
     refine(j9 n_fw n_109).mono ?_
     rintro e_ w2_⟨fs_,hf_,rfl,x_⟩
     exact hK1.out _ _ x_⟨fs_,rfl,hf_⟩
    refine jx _ rfl(fun u _=>∃es,u= .agg(jc es).toArray∧IsN es(yZ v_106(qr 121665 v_110)))(d:=89)rfl(fun _ _ _ h _=>h)rfl ?_ ?_
    ·intro a_ w_ hev hR hk K1 hK1
     have e84:a_.eval(.tmp 84)=_:=hk 84 rfl
     obtain⟨es_87,e87,n87⟩:∃es,a_.eval(.tmp 87)= .agg(jc es).toArray∧IsN es _:=hk 87 rfl
     clear hk
     have f84:=jz.trans e84
     have f87:=jz.trans e87
     go_simp
     refine(yn n_105 n87).mono ?_
     rintro e_ w2_⟨fs_,hf_,rfl,x_⟩
     exact hK1.out _ _ x_⟨fs_,rfl,hf_⟩
    refine jx _ rfl(fun u _=>∃es,u= .agg(jc es).toArray∧IsN es(qr v_110(yZ v_106(qr 121665 v_110))))(d:=90)rfl(fun _ _ _ h _=>h)rfl ?_ ?_
    ·intro a_ w_ hev hR hk K1 hK1
     have e83:a_.eval(.tmp 83)=_:=hk 83 rfl
     obtain⟨es_88,e88,n88⟩:∃es,a_.eval(.tmp 88)= .agg(jc es).toArray∧IsN es _:=hk 88 rfl
     clear hk
     have f83:=jz.trans e83
     have f88:=jz.trans e88
     go_simp
     refine(j9 n_109 n88).mono ?_
     rintro e_ w2_⟨fs_,hf_,rfl,x_⟩
     exact hK1.out _ _ x_⟨fs_,rfl,hf_⟩
    intro v_ wq_ hR hV_ hN_
    obtain⟨hv6,hv5,hv4,hv3,hv2,hv1,hv0,_⟩ :=hV_
    replace hv0:v_ 0=_:=hv0
    replace hv1:v_ 1=_:=hv1
    replace hv2:v_ 2=_:=hv2
    replace hv3:v_ 3=_:=hv3
    skip
    skip
    skip
    dsimp only [putE,zu]
    obtain⟨es_4,hv4,hn_4⟩ :=hv4
    obtain⟨es_5,hv5,hn_5⟩ :=hv5
    obtain⟨es_6,hv6,hn_6⟩ :=hv6
    clear hN_
    rw [hv0,hv1,hv2,hv3,hv4,hv5,hv6]
    go_frame
    clear hv0 hv1 hv2 hv3 hv4 hv5 hv6
    generalize es_6=c_125 at *
    have n_125:=hn_6
    clear hn_4 hn_5 hn_6
    obtain⟨v_126,hv_126⟩:∃v,v=qr v_110(yZ v_106(qr 121665 v_110)):=⟨_,rfl⟩
    rw [← hv_126] at n_125
    replace hv_126:=hd(fun _:Unit=>hv_126)
    have S_c_125:=jn n_125.len
    have O_c_125:=jw c_125
    have mm_:=K8.kept((Ext.refl w25_).drew.trans hR)K8.lt
    refine qi(z:=7)_ rfl rfl(by kernel_rfl)?_
    intro K1 hK1
    refine wp_store_row _ _ _ rfl g8(jc c_125).toArray rfl rfl 200(jc c9).toArray mm_(by rw [S_c_125];rfl)(by rw [S_c_125,S_c9])O_c_125 ?_
    refine hK1.out _ _ ?_
    clear hK1 K1
    refine qQ(by kernel_rfl)?_
    have mK5:=K5.kept((Ext.refl w25_).drew.trans hR)K5.lt
    have mK6:=K6.kept((Ext.refl w25_).drew.trans hR)K6.lt
    have mK7:=K7.kept((Ext.refl w25_).drew.trans hR)K7.lt
    have mK8:=K8.kept((Ext.refl w25_).drew.trans hR)K8.lt
    have mK9:=K9.kept((Ext.refl w25_).drew.trans hR)K9.lt
    have mK14:=K14.kept((Ext.refl w25_).drew.trans hR)K14.lt
    have mK16:=K16.kept((Ext.refl w25_).drew.trans hR)K16.lt
    have mKB:=Below.trans KB(((Ext.refl w25_).drew.trans hR).mono(Nat.le_of_lt K6.lt))
    refine ye(fun W=>Ur W g5 200 cx∧Ur W g6 200 c_123∧Ur W g7 200 c_119∧Ur W g8 200 c_125∧Ur W g9 200 c_121∧Ur W g14 200 c_105∧Ur W g16 200 c_109∧Below g6 w5_ W)⟨mK5.so(by omega),
      mK6.so(by omega),
      mK7.so(by omega),
      setRow_heap _ _ _ _ _ _ mK8,
      mK9.so(by omega),
      mK14.so(by omega),
      mK16.so(by omega),
      below_setRow mKB(by omega)_⟩?_
    clear K5 K6 K7 K8 K9 K14 K16 KB mm_ hR mK5 mK6 mK7 mK8 mK9 mK14 mK16 mKB Q14 Q16
    rintro w26_⟨K5,K6,K7,K8,K9,K14,K16,KB⟩
    clear K14
    clear K16
    have KX:=(P3.out _ KB).1
    go_wp2_with(refine wpList_load_row rfl 23 _ rfl w.heap.size rfl 23(cellsOf ks).toArray(0,0)_ KX.1 rfl rfl(by rw [S_ks];rfl)?_;go_frame)
    refine(BT.out _).mono ?_
    rintro e u_⟨rfl,e1⟩
    go_upto_region 30 with fail
    refine jg(fun W=>Ur W g5 200 cx∧Ur W g6 200 c_123∧Ur W g7 200 c_119∧Ur W g8 200 c_125∧Ur W g9 200 c_121∧Below g6 w5_ W)⟨K5.kept e1 K5.lt,
      K6.kept e1 K6.lt,
      K7.kept e1 K7.lt,
      K8.kept e1 K8.lt,
      K9.kept e1 K9.lt,
      Below.trans KB(e1.mono(Nat.le_of_lt K6.lt))⟩?_
    clear K5 K6 K7 K8 K9 KB KX e1
    rintro w27_⟨K5,K6,K7,K8,K9,KB⟩
    have a1:=zY w27_(jc zn).toArray 200
    have E_:=yI(Ext.refl w27_)(jc zn).toArray 200(jc c_123).toArray
    go_upto_region 31 with(first
     |(refine wpList_load_row rfl 200 _ rfl g6 rfl 200(jc c_123).toArray(0,0)_ K6 rfl rfl(by rw [S_c_123];rfl)?_;go_frame)
     |(refine wpList_store_row rfl 200 _ _ rfl w27_.heap.size(jc c_123).toArray rfl rfl 200 _ a1.out(by rw [S_c_123];rfl)(by rw [S_c_123,S_zn])O_c_123 ?_;simp only [Act.put]))
    obtain⟨g21,hg_⟩:∃g,g=w27_.heap.size:=⟨_,rfl⟩
    have z21:g9 < g21:=by rw [hg_];exact K9.lt
    refine jg(fun W=>Ur W g5 200 cx∧Ur W g6 200 c_123∧Ur W g7 200 c_119∧Ur W g8 200 c_125∧Ur W g9 200 c_121∧Ur W g21 200 c_123∧Below g6 w5_ W)⟨K5.kept E_ K5.lt,
      K6.kept E_ K6.lt,
      K7.kept E_ K7.lt,
      K8.kept E_ K8.lt,
      K9.kept E_ K9.lt,
      by rw [hg_];exact setRow_heap _ _ _ _ _ _ a1.out,
      Below.trans KB(E_.mono(Nat.le_of_lt K6.lt))⟩?_
    rw [← hg_]
    clear K5 K6 K7 K8 K9 KB hg_ a1 E_
    rintro w28_⟨K5,K6,K7,K8,K9,K21,KB⟩
    go_upto_region 32 with(first
     |(refine wpList_load_row rfl 200 _ rfl g7 rfl 200(jc c_119).toArray(0,0)_ K7 rfl rfl(by rw [S_c_119];rfl)?_;go_frame)
     |(refine wpList_store_row rfl 200 _ _ rfl g6(jc c_119).toArray rfl rfl 200 _ K6(by rw [S_c_119];rfl)(by rw [S_c_119,S_c_123])O_c_119 ?_;simp only [Act.put]))
    refine jg(fun W=>Ur W g5 200 cx∧Ur W g6 200 c_119∧Ur W g7 200 c_119∧Ur W g8 200 c_125∧Ur W g9 200 c_121∧Ur W g21 200 c_123∧Below g6 w5_ W)⟨K5.so(by omega),
      setRow_heap _ _ _ _ _ _ K6,
      K7.so(by omega),
      K8.so(by omega),
      K9.so(by omega),
      K21.so(by omega),
      below_setRow KB(by omega)_⟩?_
    clear K5 K6 K7 K8 K9 K21 KB
    rintro w29_⟨K5,K6,K7,K8,K9,K21,KB⟩
    go_upto_region 33 with(first
     |(refine wpList_load_row rfl 200 _ rfl g21 rfl 200(jc c_123).toArray(0,0)_ K21 rfl rfl(by rw [S_c_123];rfl)?_;go_frame)
     |(refine wpList_store_row rfl 200 _ _ rfl g7(jc c_123).toArray rfl rfl 200 _ K7(by rw [S_c_123];rfl)(by rw [S_c_123,S_c_119])O_c_123 ?_;simp only [Act.put]))
    refine jg(fun W=>Ur W g5 200 cx∧Ur W g6 200 c_119∧Ur W g7 200 c_123∧Ur W g8 200 c_125∧Ur W g9 200 c_121∧Ur W g21 200 c_123∧Below g6 w5_ W)⟨K5.so(by omega),
      K6.so(by omega),
      setRow_heap _ _ _ _ _ _ K7,
      K8.so(by omega),
      K9.so(by omega),
      K21.so(by omega),
      below_setRow KB(by omega)_⟩?_
    clear K5 K6 K7 K8 K9 K21 KB
    rintro w30_⟨K5,K6,K7,K8,K9,K21,KB⟩
    go_upto_region 34 with(first
     |(refine wpList_load_row rfl 200 _ rfl g8 rfl 200(jc c_125).toArray(0,0)_ K8 rfl rfl(by rw [S_c_125];rfl)?_;go_frame)
     |(refine wpList_store_row rfl 200 _ _ rfl g21(jc c_125).toArray rfl rfl 200 _ K21(by rw [S_c_125];rfl)(by rw [S_c_125,S_c_123])O_c_125 ?_;simp only [Act.put]))
    refine jg(fun W=>Ur W g5 200 cx∧Ur W g6 200 c_119∧Ur W g7 200 c_123∧Ur W g8 200 c_125∧Ur W g9 200 c_121∧Ur W g21 200 c_125∧Below g6 w5_ W)⟨K5.so(by omega),
      K6.so(by omega),
      K7.so(by omega),
      K8.so(by omega),
      K9.so(by omega),
      setRow_heap _ _ _ _ _ _ K21,
      below_setRow KB(by omega)_⟩?_
    clear K5 K6 K7 K8 K9 K21 KB
    rintro w31_⟨K5,K6,K7,K8,K9,K21,KB⟩
    go_upto_region 35 with(first
     |(refine wpList_load_row rfl 200 _ rfl g9 rfl 200(jc c_121).toArray(0,0)_ K9 rfl rfl(by rw [S_c_121];rfl)?_;go_frame)
     |(refine wpList_store_row rfl 200 _ _ rfl g8(jc c_121).toArray rfl rfl 200 _ K8(by rw [S_c_121];rfl)(by rw [S_c_121,S_c_125])O_c_121 ?_;simp only [Act.put]))
    refine jg(fun W=>Ur W g5 200 cx∧Ur W g6 200 c_119∧Ur W g7 200 c_123∧Ur W g8 200 c_121∧Ur W g9 200 c_121∧Ur W g21 200 c_125∧Below g6 w5_ W)⟨K5.so(by omega),
      K6.so(by omega),
      K7.so(by omega),
      setRow_heap _ _ _ _ _ _ K8,
      K9.so(by omega),
      K21.so(by omega),
      below_setRow KB(by omega)_⟩?_
    clear K5 K6 K7 K8 K9 K21 KB
    rintro w32_⟨K5,K6,K7,K8,K9,K21,KB⟩
    go_wp2_with(first
     |(refine wpList_load_row rfl 200 _ rfl g21 rfl 200(jc c_125).toArray(0,0)_ K21 rfl rfl(by rw [S_c_125];rfl)?_;go_frame)
     |(refine wpList_store_row rfl 200 _ _ rfl g9(jc c_125).toArray rfl rfl 200 _ K9(by rw [S_c_125];rfl)(by rw [S_c_125,S_c_121])O_c_125 ?_;simp only [Act.put]))
    have NX:S(m+1)=(v_120,v_124,v_122,v_126):=by
     rw [S1m.out()]
     replace hv_102:=hv_102.out()
     replace hv_104:=hv_104.out()
     replace hv_106:=hv_106.out()
     replace hv_108:=hv_108.out()
     replace hv_110:=hv_110.out()
     replace hv_112:=hv_112.out()
     replace hv_114:=hv_114.out()
     replace hv_116:=hv_116.out()
     replace hv_118:=hv_118.out()
     replace hv_120:=hv_120.out()
     replace hv_122:=hv_122.out()
     replace hv_124:=hv_124.out()
     replace hv_126:=hv_126.out()
     subst hv_126 hv_124 hv_122 hv_120 hv_118 hv_116 hv_114 hv_112 hv_110 hv_108 hv_106 hv_104 hv_102
     rw [jfL x]
     rfl
    exact⟨⟨m+1,c_119,c_123,c_121,c_125,hm1.out,by rw [← hbn1.out],K6.so(by omega),
      K7.so(by omega),
      K8.so(by omega),
      setRow_heap _ _ _ _ _ _ K9,by rw [NX];exact n_119,by rw [NX];exact n_123,by rw [NX];exact n_121,by rw [NX];exact n_125,below_setRow KB(by omega)_⟩,by simp [intOf];omega⟩
   ·rw [hbt] at BT S1m
    clear hbt
    have KX:=(P3.out _ KB).1
    go_wp2_with(refine wpList_load_row rfl 23 _ rfl w.heap.size rfl 23(cellsOf ks).toArray(0,0)_ KX.1 rfl rfl(by rw [S_ks];rfl)?_;go_frame)
    refine(BT.out _).mono ?_
    rintro e u_⟨rfl,e1⟩
    go_upto_region 16 with fail
    refine jg(fun W=>Ur W g5 200 cx∧Ur W g6 200 c6∧Ur W g7 200 c7∧Ur W g8 200 c8∧Ur W g9 200 c9∧Below g6 w5_ W)⟨K5.kept e1 K5.lt,
      K6.kept e1 K6.lt,
      K7.kept e1 K7.lt,
      K8.kept e1 K8.lt,
      K9.kept e1 K9.lt,
      Below.trans KB(e1.mono(Nat.le_of_lt K6.lt))⟩?_
    clear K5 K6 K7 K8 K9 KB KX e1
    rintro w7_⟨K5,K6,K7,K8,K9,KB⟩
    go_wp2_with(first
     |(refine wpList_load_row rfl 200 _ rfl g6 rfl 200(jc c6).toArray(0,0)_ K6 rfl rfl(by rw [S_c6];rfl)?_;go_frame)
     |(refine wpList_load_row rfl 200 _ rfl g8 rfl 200(jc c8).toArray(0,0)_ K8 rfl rfl(by rw [S_c8];rfl)?_;go_frame))
    refine(yn n6 n8).mono ?_
    rintro e u_⟨c_201,n_201,rfl,e1⟩
    obtain⟨v_202,hv_202⟩:∃v,v=yZ va vc:=⟨_,rfl⟩
    rw [← hv_202] at n_201
    replace hv_202:=hd(fun _:Unit=>hv_202)
    have S_c_201:=jn n_201.len
    have O_c_201:=jw c_201
    have a1:=zY u_(jc zn).toArray 200
    have E_:=yI e1(jc zn).toArray 200(jc c_201).toArray
    go_upto_region 17 with(first
     |(refine wpList_store_row rfl 200 _ _ rfl u_.heap.size(jc c_201).toArray rfl rfl 200 _ a1.out(by rw [S_c_201];rfl)(by rw [S_c_201,S_zn])O_c_201 ?_;simp only [Act.put]))
    obtain⟨g12,hg_⟩:∃g,g=u_.heap.size:=⟨_,rfl⟩
    have z12:g9 < g12:=by rw [hg_];exact Nat.lt_of_lt_of_le K9.lt e1.size
    refine jg(fun W=>Ur W g5 200 cx∧Ur W g6 200 c6∧Ur W g7 200 c7∧Ur W g8 200 c8∧Ur W g9 200 c9∧Ur W g12 200 c_201∧Below g6 w5_ W)⟨K5.kept E_ K5.lt,
      K6.kept E_ K6.lt,
      K7.kept E_ K7.lt,
      K8.kept E_ K8.lt,
      K9.kept E_ K9.lt,
      by rw [hg_];exact setRow_heap _ _ _ _ _ _ a1.out,
      Below.trans KB(E_.mono(Nat.le_of_lt K6.lt))⟩?_
    rw [← hg_]
    clear K5 K6 K7 K8 K9 KB hg_ a1 E_ e1
    rintro w8_⟨K5,K6,K7,K8,K9,K12,KB⟩
    go_wp2_with(first
     |(refine wpList_load_row rfl 200 _ rfl g6 rfl 200(jc c6).toArray(0,0)_ K6 rfl rfl(by rw [S_c6];rfl)?_;go_frame)
     |(refine wpList_load_row rfl 200 _ rfl g8 rfl 200(jc c8).toArray(0,0)_ K8 rfl rfl(by rw [S_c8];rfl)?_;go_frame))
    refine(yo n6 n8).mono ?_
    rintro e u_⟨c_203,n_203,rfl,e1⟩
    obtain⟨v_204,hv_204⟩:∃v,v=zO va vc:=⟨_,rfl⟩
    rw [← hv_204] at n_203
    replace hv_204:=hd(fun _:Unit=>hv_204)
    have S_c_203:=jn n_203.len
    have O_c_203:=jw c_203
    have a1:=zY u_(jc zn).toArray 200
    have E_:=yI e1(jc zn).toArray 200(jc c_203).toArray
    go_upto_region 18 with(first
     |(refine wpList_store_row rfl 200 _ _ rfl u_.heap.size(jc c_203).toArray rfl rfl 200 _ a1.out(by rw [S_c_203];rfl)(by rw [S_c_203,S_zn])O_c_203 ?_;simp only [Act.put]))
    obtain⟨g13,hg_⟩:∃g,g=u_.heap.size:=⟨_,rfl⟩
    have z13:g9 < g13:=by rw [hg_];exact Nat.lt_of_lt_of_le K9.lt e1.size
    refine jg(fun W=>Ur W g5 200 cx∧Ur W g6 200 c6∧Ur W g7 200 c7∧Ur W g8 200 c8∧Ur W g9 200 c9∧Ur W g12 200 c_201∧Ur W g13 200 c_203∧Below g6 w5_ W)⟨K5.kept E_ K5.lt,
      K6.kept E_ K6.lt,
      K7.kept E_ K7.lt,
      K8.kept E_ K8.lt,
      K9.kept E_ K9.lt,
      K12.kept E_ K12.lt,
      by rw [hg_];exact setRow_heap _ _ _ _ _ _ a1.out,
      Below.trans KB(E_.mono(Nat.le_of_lt K6.lt))⟩?_
    rw [← hg_]
    clear K5 K6 K7 K8 K9 K12 KB hg_ a1 E_ e1
    rintro w9_⟨K5,K6,K7,K8,K9,K12,K13,KB⟩
    go_wp2_with(first
     |(refine wpList_load_row rfl 200 _ rfl g12 rfl 200(jc c_201).toArray(0,0)_ K12 rfl rfl(by rw [S_c_201];rfl)?_;go_frame))
    refine(j9 n_201 n_201).mono ?_
    rintro e u_⟨c_205,n_205,rfl,e1⟩
    obtain⟨v_206,hv_206⟩:∃v,v=qr v_202 v_202:=⟨_,rfl⟩
    rw [← hv_206] at n_205
    replace hv_206:=hd(fun _:Unit=>hv_206)
    have S_c_205:=jn n_205.len
    have O_c_205:=jw c_205
    have a1:=zY u_(jc zn).toArray 200
    have E_:=yI e1(jc zn).toArray 200(jc c_205).toArray
    go_upto_region 19 with(first
     |(refine wpList_store_row rfl 200 _ _ rfl u_.heap.size(jc c_205).toArray rfl rfl 200 _ a1.out(by rw [S_c_205];rfl)(by rw [S_c_205,S_zn])O_c_205 ?_;simp only [Act.put]))
    obtain⟨g14,hg_⟩:∃g,g=u_.heap.size:=⟨_,rfl⟩
    have z14:g9 < g14:=by rw [hg_];exact Nat.lt_of_lt_of_le K9.lt e1.size
    refine jg(fun W=>Ur W g5 200 cx∧Ur W g6 200 c6∧Ur W g7 200 c7∧Ur W g8 200 c8∧Ur W g9 200 c9∧Ur W g12 200 c_201∧Ur W g13 200 c_203∧Ur W g14 200 c_205∧Below g6 w5_ W)⟨K5.kept E_ K5.lt,
      K6.kept E_ K6.lt,
      K7.kept E_ K7.lt,
      K8.kept E_ K8.lt,
      K9.kept E_ K9.lt,
      K12.kept E_ K12.lt,
      K13.kept E_ K13.lt,
      by rw [hg_];exact setRow_heap _ _ _ _ _ _ a1.out,
      Below.trans KB(E_.mono(Nat.le_of_lt K6.lt))⟩?_
    rw [← hg_]
    clear K5 K6 K7 K8 K9 K12 K13 KB hg_ a1 E_ e1
    rintro w10_⟨K5,K6,K7,K8,K9,K12,K13,K14,KB⟩
    go_wp2_with(first
     |(refine wpList_load_row rfl 200 _ rfl g13 rfl 200(jc c_203).toArray(0,0)_ K13 rfl rfl(by rw [S_c_203];rfl)?_;go_frame))
    refine(j9 n_203 n_203).mono ?_
    rintro e u_⟨c_207,n_207,rfl,e1⟩
    obtain⟨v_208,hv_208⟩:∃v,v=qr v_204 v_204:=⟨_,rfl⟩
    rw [← hv_208] at n_207
    replace hv_208:=hd(fun _:Unit=>hv_208)
    have S_c_207:=jn n_207.len
    have O_c_207:=jw c_207
    have a1:=zY u_(jc zn).toArray 200
    have E_:=yI e1(jc zn).toArray 200(jc c_207).toArray
    go_upto_region 20 with(first
     |(refine wpList_store_row rfl 200 _ _ rfl u_.heap.size(jc c_207).toArray rfl rfl 200 _ a1.out(by rw [S_c_207];rfl)(by rw [S_c_207,S_zn])O_c_207 ?_;simp only [Act.put]))
    obtain⟨g15,hg_⟩:∃g,g=u_.heap.size:=⟨_,rfl⟩
    have z15:g9 < g15:=by rw [hg_];exact Nat.lt_of_lt_of_le K9.lt e1.size
    refine jg(fun W=>Ur W g5 200 cx∧Ur W g6 200 c6∧Ur W g7 200 c7∧Ur W g8 200 c8∧Ur W g9 200 c9∧Ur W g12 200 c_201∧Ur W g13 200 c_203∧Ur W g14 200 c_205∧Ur W g15 200 c_207∧Below g6 w5_ W)⟨K5.kept E_ K5.lt,
      K6.kept E_ K6.lt,
      K7.kept E_ K7.lt,
      K8.kept E_ K8.lt,
      K9.kept E_ K9.lt,
      K12.kept E_ K12.lt,
      K13.kept E_ K13.lt,
      K14.kept E_ K14.lt,
      by rw [hg_];exact setRow_heap _ _ _ _ _ _ a1.out,
      Below.trans KB(E_.mono(Nat.le_of_lt K6.lt))⟩?_
    rw [← hg_]
    clear K5 K6 K7 K8 K9 K12 K13 K14 KB hg_ a1 E_ e1
    rintro w11_⟨K5,K6,K7,K8,K9,K12,K13,K14,K15,KB⟩
    go_wp2_with(first
     |(refine wpList_load_row rfl 200 _ rfl g14 rfl 200(jc c_205).toArray(0,0)_ K14 rfl rfl(by rw [S_c_205];rfl)?_;go_frame)
     |(refine wpList_load_row rfl 200 _ rfl g15 rfl 200(jc c_207).toArray(0,0)_ K15 rfl rfl(by rw [S_c_207];rfl)?_;go_frame))
    refine(yo n_205 n_207).mono ?_
    rintro e u_⟨c_209,n_209,rfl,e1⟩
    obtain⟨v_210,hv_210⟩:∃v,v=zO v_206 v_208:=⟨_,rfl⟩
    rw [← hv_210] at n_209
    replace hv_210:=hd(fun _:Unit=>hv_210)
    have S_c_209:=jn n_209.len
    have O_c_209:=jw c_209
    have a1:=zY u_(jc zn).toArray 200
    have E_:=yI e1(jc zn).toArray 200(jc c_209).toArray
    go_upto_region 21 with(first
     |(refine wpList_store_row rfl 200 _ _ rfl u_.heap.size(jc c_209).toArray rfl rfl 200 _ a1.out(by rw [S_c_209];rfl)(by rw [S_c_209,S_zn])O_c_209 ?_;simp only [Act.put]))
    obtain⟨g16,hg_⟩:∃g,g=u_.heap.size:=⟨_,rfl⟩
    have z16:g9 < g16:=by rw [hg_];exact Nat.lt_of_lt_of_le K9.lt e1.size
    refine jg(fun W=>Ur W g5 200 cx∧Ur W g6 200 c6∧Ur W g7 200 c7∧Ur W g8 200 c8∧Ur W g9 200 c9∧Ur W g12 200 c_201∧Ur W g13 200 c_203∧Ur W g14 200 c_205∧Ur W g15 200 c_207∧Ur W g16 200 c_209∧Below g6 w5_ W)⟨K5.kept E_ K5.lt,
      K6.kept E_ K6.lt,
      K7.kept E_ K7.lt,
      K8.kept E_ K8.lt,
      K9.kept E_ K9.lt,
      K12.kept E_ K12.lt,
      K13.kept E_ K13.lt,
      K14.kept E_ K14.lt,
      K15.kept E_ K15.lt,
      by rw [hg_];exact setRow_heap _ _ _ _ _ _ a1.out,
      Below.trans KB(E_.mono(Nat.le_of_lt K6.lt))⟩?_
    rw [← hg_]
    clear K5 K6 K7 K8 K9 K12 K13 K14 K15 KB hg_ a1 E_ e1
    rintro w12_⟨K5,K6,K7,K8,K9,K12,K13,K14,K15,K16,KB⟩
    have Q7:=K7.q
    have Q9:=K9.q
    have Q12:=K12.q
    refine qgF(R:=Ext)Ext.refl(fun _ _ _=>Ext.trans) [0,1,2,3,4,5] [6] [0,0,3,0,15,0,63] [true,true,true,true,true,true,false] ?_
    refine jl(fun _=>Ext.refl _)_ rfl(v:= .agg(jc c7).toArray)(d:=57)rfl rfl ?_ ?_
    ·intro a_ w_ hev hR hk
     have e7:a_.eval(.tmp 7)=_:=hk 7 rfl
     exact(jd rfl e7(Q7.out w_(Ext.trans(Ext.refl _).drew hR))rfl rfl(by rw [S_c7];rfl))
    refine jl(fun _=>Ext.refl _)_ rfl(v:= .agg(jc c9).toArray)(d:=58)rfl rfl ?_ ?_
    ·intro a_ w_ hev hR hk
     have e9:a_.eval(.tmp 9)=_:=hk 9 rfl
     exact(jd rfl e9(Q9.out w_(Ext.trans(Ext.refl _).drew hR))rfl rfl(by rw [S_c9];rfl))
    refine jx _ rfl(fun u _=>∃es,u= .agg(jc es).toArray∧IsN es(zO vb vd))(d:=59)rfl(fun _ _ _ h _=>h)rfl ?_ ?_
    ·intro a_ w_ hev hR hk K1 hK1
     have e56:a_.eval(.tmp 56)=_:=hk 56 rfl
     have e57:a_.eval(.tmp 57)=_:=hk 57 rfl
     clear hk
     have f56:=jz.trans e56
     have f57:=jz.trans e57
     go_simp
     refine(yo n7 n9).mono ?_
     rintro e_ w2_⟨fs_,hf_,rfl,x_⟩
     exact hK1.out _ _ x_⟨fs_,rfl,hf_⟩
    refine jl(fun _=>Ext.refl _)_ rfl(v:= .agg(jc c_201).toArray)(d:=60)rfl rfl ?_ ?_
    ·intro a_ w_ hev hR hk
     have e12:a_.eval(.tmp 12)=_:=hk 12 rfl
     exact(jd rfl e12(Q12.out w_(Ext.trans(Ext.refl _).drew hR))rfl rfl(by rw [S_c_201];rfl))
    refine jx _ rfl(fun u _=>∃es,u= .agg(jc es).toArray∧IsN es(qr(zO vb vd)v_202))(d:=61)rfl(fun _ _ _ h _=>h)rfl ?_ ?_
    ·intro a_ w_ hev hR hk K1 hK1
     obtain⟨es_58,e58,n58⟩:∃es,a_.eval(.tmp 58)= .agg(jc es).toArray∧IsN es _:=hk 58 rfl
     have e59:a_.eval(.tmp 59)=_:=hk 59 rfl
     clear hk
     have f58:=jz.trans e58
     have f59:=jz.trans e59
     go_simp
     refine(j9 n58 n_201).mono ?_
     rintro e_ w2_⟨fs_,hf_,rfl,x_⟩
     exact hK1.out _ _ x_⟨fs_,rfl,hf_⟩
    refine qX _ rfl(fun u w_=>∃g,u= .pointer(some⟨g,0,none⟩)∧w12_.drew.heap.size≤g∧w_.heap[g]? =some(.cells(jc zn).toArray 200(0,0)))(d:=18)rfl(fun _ _ _ h e=>by obtain⟨g,h1,h2,h3⟩ :=h;exact⟨g,h1,h2,(e.block g(jh h3)).trans h3⟩)rfl(by decide)(fun _ _ h=>by obtain⟨g,h1,h2,h3⟩ :=h;subst h1;exact⟨g,rfl,jh h3⟩)?_ ?_
    ·intro a_ w_ hev hR hk K1 hK1
     go_simp
     exact hK1.out _ _((Ext.refl _).alloc _)⟨_,rfl,hR.size,heap_alloc_new _ _⟩(fun _ q=>by cases q;exact Nat.le_refl _)
    intro v_ wq_ hR hV_ hN_
    obtain⟨hv5,hv4,hv3,hv2,hv1,hv0,_⟩ :=hV_
    replace hv0:v_ 0=_:=hv0
    replace hv1:v_ 1=_:=hv1
    skip
    replace hv3:v_ 3=_:=hv3
    skip
    skip
    dsimp only [putE,zu]
    obtain⟨es_2,hv2,hn_2⟩ :=hv2
    obtain⟨es_4,hv4,hn_4⟩ :=hv4
    obtain⟨g_5,hv5,gb_5,gc_5⟩ :=hv5
    clear hN_
    rw [hv0,hv1,hv2,hv3,hv4,hv5]
    go_frame
    clear hv0 hv1 hv2 hv3 hv4 hv5
    generalize es_4=c_211 at *
    have n_211:=hn_4
    clear hn_2 hn_4
    obtain⟨v_212,hv_212⟩:∃v,v=qr(zO vb vd)v_202:=⟨_,rfl⟩
    rw [← hv_212] at n_211
    replace hv_212:=hd(fun _:Unit=>hv_212)
    have S_c_211:=jn n_211.len
    have O_c_211:=jw c_211
    refine qi(z:=6)_ rfl rfl(by kernel_rfl)?_
    intro K1 hK1
    refine wp_store_row _ _ _ rfl g_5(jc c_211).toArray rfl rfl 200(jc zn).toArray gc_5(by rw [S_c_211];rfl)(by rw [S_c_211,S_zn])O_c_211 ?_
    refine hK1.out _ _ ?_
    clear hK1 K1
    refine qQ(by kernel_rfl)?_
    have z17:g9 < g_5:=Nat.lt_of_lt_of_le K9.lt gb_5
    have E_:Ext w12_(wq_.setRow g_5(jc c_211).toArray):=below_setRow((Ext.refl w12_).drew.trans hR)gb_5 _
    refine ye(fun W=>Ur W g5 200 cx∧Ur W g6 200 c6∧Ur W g7 200 c7∧Ur W g8 200 c8∧Ur W g9 200 c9∧Ur W g12 200 c_201∧Ur W g13 200 c_203∧Ur W g14 200 c_205∧Ur W g15 200 c_207∧Ur W g16 200 c_209∧Ur W g_5 200 c_211∧Below g6 w5_ W)⟨K5.kept E_ K5.lt,
      K6.kept E_ K6.lt,
      K7.kept E_ K7.lt,
      K8.kept E_ K8.lt,
      K9.kept E_ K9.lt,
      K12.kept E_ K12.lt,
      K13.kept E_ K13.lt,
      K14.kept E_ K14.lt,
      K15.kept E_ K15.lt,
      K16.kept E_ K16.lt,
      setRow_heap _ _ _ _ _ _ gc_5,
      Below.trans KB(E_.mono(Nat.le_of_lt K6.lt))⟩?_
    clear K5 K6 K7 K8 K9 K12 K13 K14 K15 K16 KB E_ hR gc_5 gb_5 Q7 Q9 Q12
    rintro w13_⟨K5,K6,K7,K8,K9,K12,K13,K14,K15,K16,K17,KB⟩
    generalize g_5=g17 at *
    go_upto_region 22 with fail
    have Q7:=K7.q
    have Q9:=K9.q
    have Q13:=K13.q
    refine qgF(R:=Ext)Ext.refl(fun _ _ _=>Ext.trans) [0,1,2,3,4,5] [6] [0,0,3,0,15,0,63] [true,true,true,true,true,true,false] ?_
    refine jl(fun _=>Ext.refl _)_ rfl(v:= .agg(jc c7).toArray)(d:=62)rfl rfl ?_ ?_
    ·intro a_ w_ hev hR hk
     have e7:a_.eval(.tmp 7)=_:=hk 7 rfl
     exact(jd rfl e7(Q7.out w_(Ext.trans(Ext.refl _).drew hR))rfl rfl(by rw [S_c7];rfl))
    refine jl(fun _=>Ext.refl _)_ rfl(v:= .agg(jc c9).toArray)(d:=63)rfl rfl ?_ ?_
    ·intro a_ w_ hev hR hk
     have e9:a_.eval(.tmp 9)=_:=hk 9 rfl
     exact(jd rfl e9(Q9.out w_(Ext.trans(Ext.refl _).drew hR))rfl rfl(by rw [S_c9];rfl))
    refine jx _ rfl(fun u _=>∃es,u= .agg(jc es).toArray∧IsN es(yZ vb vd))(d:=64)rfl(fun _ _ _ h _=>h)rfl ?_ ?_
    ·intro a_ w_ hev hR hk K1 hK1
     have e61:a_.eval(.tmp 61)=_:=hk 61 rfl
     have e62:a_.eval(.tmp 62)=_:=hk 62 rfl
     clear hk
     have f61:=jz.trans e61
     have f62:=jz.trans e62
     go_simp
     refine(yn n7 n9).mono ?_
     rintro e_ w2_⟨fs_,hf_,rfl,x_⟩
     exact hK1.out _ _ x_⟨fs_,rfl,hf_⟩
    refine jl(fun _=>Ext.refl _)_ rfl(v:= .agg(jc c_203).toArray)(d:=65)rfl rfl ?_ ?_
    ·intro a_ w_ hev hR hk
     have e13:a_.eval(.tmp 13)=_:=hk 13 rfl
     exact(jd rfl e13(Q13.out w_(Ext.trans(Ext.refl _).drew hR))rfl rfl(by rw [S_c_203];rfl))
    refine jx _ rfl(fun u _=>∃es,u= .agg(jc es).toArray∧IsN es(qr(yZ vb vd)v_204))(d:=66)rfl(fun _ _ _ h _=>h)rfl ?_ ?_
    ·intro a_ w_ hev hR hk K1 hK1
     obtain⟨es_63,e63,n63⟩:∃es,a_.eval(.tmp 63)= .agg(jc es).toArray∧IsN es _:=hk 63 rfl
     have e64:a_.eval(.tmp 64)=_:=hk 64 rfl
     clear hk
     have f63:=jz.trans e63
     have f64:=jz.trans e64
     go_simp
     refine(j9 n63 n_203).mono ?_
     rintro e_ w2_⟨fs_,hf_,rfl,x_⟩
     exact hK1.out _ _ x_⟨fs_,rfl,hf_⟩
    refine qX _ rfl(fun u w_=>∃g,u= .pointer(some⟨g,0,none⟩)∧w13_.drew.heap.size≤g∧w_.heap[g]? =some(.cells(jc zn).toArray 200(0,0)))(d:=19)rfl(fun _ _ _ h e=>by obtain⟨g,h1,h2,h3⟩ :=h;exact⟨g,h1,h2,(e.block g(jh h3)).trans h3⟩)rfl(by decide)(fun _ _ h=>by obtain⟨g,h1,h2,h3⟩ :=h;subst h1;exact⟨g,rfl,jh h3⟩)?_ ?_
    ·intro a_ w_ hev hR hk K1 hK1
     go_simp
     exact hK1.out _ _((Ext.refl _).alloc _)⟨_,rfl,hR.size,heap_alloc_new _ _⟩(fun _ q=>by cases q;exact Nat.le_refl _)
    intro v_ wq_ hR hV_ hN_
    obtain⟨hv5,hv4,hv3,hv2,hv1,hv0,_⟩ :=hV_
    replace hv0:v_ 0=_:=hv0
    replace hv1:v_ 1=_:=hv1
    skip
    replace hv3:v_ 3=_:=hv3
    skip
    skip
    dsimp only [putE,zu]
    obtain⟨es_2,hv2,hn_2⟩ :=hv2
    obtain⟨es_4,hv4,hn_4⟩ :=hv4
    obtain⟨g_5,hv5,gb_5,gc_5⟩ :=hv5
    clear hN_
    rw [hv0,hv1,hv2,hv3,hv4,hv5]
    go_frame
    clear hv0 hv1 hv2 hv3 hv4 hv5
    generalize es_4=c_213 at *
    have n_213:=hn_4
    clear hn_2 hn_4
    obtain⟨v_214,hv_214⟩:∃v,v=qr(yZ vb vd)v_204:=⟨_,rfl⟩
    rw [← hv_214] at n_213
    replace hv_214:=hd(fun _:Unit=>hv_214)
    have S_c_213:=jn n_213.len
    have O_c_213:=jw c_213
    refine qi(z:=6)_ rfl rfl(by kernel_rfl)?_
    intro K1 hK1
    refine wp_store_row _ _ _ rfl g_5(jc c_213).toArray rfl rfl 200(jc zn).toArray gc_5(by rw [S_c_213];rfl)(by rw [S_c_213,S_zn])O_c_213 ?_
    refine hK1.out _ _ ?_
    clear hK1 K1
    refine qQ(by kernel_rfl)?_
    have z18:g9 < g_5:=Nat.lt_of_lt_of_le K9.lt gb_5
    have E_:Ext w13_(wq_.setRow g_5(jc c_213).toArray):=below_setRow((Ext.refl w13_).drew.trans hR)gb_5 _
    refine ye(fun W=>Ur W g5 200 cx∧Ur W g6 200 c6∧Ur W g7 200 c7∧Ur W g8 200 c8∧Ur W g9 200 c9∧Ur W g12 200 c_201∧Ur W g13 200 c_203∧Ur W g14 200 c_205∧Ur W g15 200 c_207∧Ur W g16 200 c_209∧Ur W g17 200 c_211∧Ur W g_5 200 c_213∧Below g6 w5_ W)⟨K5.kept E_ K5.lt,
      K6.kept E_ K6.lt,
      K7.kept E_ K7.lt,
      K8.kept E_ K8.lt,
      K9.kept E_ K9.lt,
      K12.kept E_ K12.lt,
      K13.kept E_ K13.lt,
      K14.kept E_ K14.lt,
      K15.kept E_ K15.lt,
      K16.kept E_ K16.lt,
      K17.kept E_ K17.lt,
      setRow_heap _ _ _ _ _ _ gc_5,
      Below.trans KB(E_.mono(Nat.le_of_lt K6.lt))⟩?_
    clear K5 K6 K7 K8 K9 K12 K13 K14 K15 K16 K17 KB E_ hR gc_5 gb_5 Q7 Q9 Q13
    rintro w14_⟨K5,K6,K7,K8,K9,K12,K13,K14,K15,K16,K17,K18,KB⟩
    generalize g_5=g18 at *
    clear K12
    clear K13
    go_wp2_with(first
     |(refine wpList_load_row rfl 200 _ rfl g17 rfl 200(jc c_211).toArray(0,0)_ K17 rfl rfl(by rw [S_c_211];rfl)?_;go_frame)
     |(refine wpList_load_row rfl 200 _ rfl g18 rfl 200(jc c_213).toArray(0,0)_ K18 rfl rfl(by rw [S_c_213];rfl)?_;go_frame))
    refine(yn n_211 n_213).mono ?_
    rintro e u_⟨c_215,n_215,rfl,e1⟩
    obtain⟨v_216,hv_216⟩:∃v,v=yZ v_212 v_214:=⟨_,rfl⟩
    rw [← hv_216] at n_215
    replace hv_216:=hd(fun _:Unit=>hv_216)
    have S_c_215:=jn n_215.len
    have O_c_215:=jw c_215
    have a1:=zY u_(jc zn).toArray 200
    have E_:=yI e1(jc zn).toArray 200(jc c_215).toArray
    go_upto_region 24 with(first
     |(refine wpList_store_row rfl 200 _ _ rfl u_.heap.size(jc c_215).toArray rfl rfl 200 _ a1.out(by rw [S_c_215];rfl)(by rw [S_c_215,S_zn])O_c_215 ?_;simp only [Act.put]))
    obtain⟨g19,hg_⟩:∃g,g=u_.heap.size:=⟨_,rfl⟩
    have z19:g9 < g19:=by rw [hg_];exact Nat.lt_of_lt_of_le K9.lt e1.size
    refine jg(fun W=>Ur W g5 200 cx∧Ur W g6 200 c6∧Ur W g7 200 c7∧Ur W g8 200 c8∧Ur W g9 200 c9∧Ur W g14 200 c_205∧Ur W g15 200 c_207∧Ur W g16 200 c_209∧Ur W g17 200 c_211∧Ur W g18 200 c_213∧Ur W g19 200 c_215∧Below g6 w5_ W)⟨K5.kept E_ K5.lt,
      K6.kept E_ K6.lt,
      K7.kept E_ K7.lt,
      K8.kept E_ K8.lt,
      K9.kept E_ K9.lt,
      K14.kept E_ K14.lt,
      K15.kept E_ K15.lt,
      K16.kept E_ K16.lt,
      K17.kept E_ K17.lt,
      K18.kept E_ K18.lt,
      by rw [hg_];exact setRow_heap _ _ _ _ _ _ a1.out,
      Below.trans KB(E_.mono(Nat.le_of_lt K6.lt))⟩?_
    rw [← hg_]
    clear K5 K6 K7 K8 K9 K14 K15 K16 K17 K18 KB hg_ a1 E_ e1
    rintro w15_⟨K5,K6,K7,K8,K9,K14,K15,K16,K17,K18,K19,KB⟩
    go_wp2_with(first
     |(refine wpList_load_row rfl 200 _ rfl g17 rfl 200(jc c_211).toArray(0,0)_ K17 rfl rfl(by rw [S_c_211];rfl)?_;go_frame)
     |(refine wpList_load_row rfl 200 _ rfl g18 rfl 200(jc c_213).toArray(0,0)_ K18 rfl rfl(by rw [S_c_213];rfl)?_;go_frame))
    refine(yo n_211 n_213).mono ?_
    rintro e u_⟨c_217,n_217,rfl,e1⟩
    obtain⟨v_218,hv_218⟩:∃v,v=zO v_212 v_214:=⟨_,rfl⟩
    rw [← hv_218] at n_217
    replace hv_218:=hd(fun _:Unit=>hv_218)
    have S_c_217:=jn n_217.len
    have O_c_217:=jw c_217
    have a1:=zY u_(jc zn).toArray 200
    have E_:=yI e1(jc zn).toArray 200(jc c_217).toArray
    go_upto_region 25 with(first
     |(refine wpList_store_row rfl 200 _ _ rfl u_.heap.size(jc c_217).toArray rfl rfl 200 _ a1.out(by rw [S_c_217];rfl)(by rw [S_c_217,S_zn])O_c_217 ?_;simp only [Act.put]))
    obtain⟨g20,hg_⟩:∃g,g=u_.heap.size:=⟨_,rfl⟩
    have z20:g9 < g20:=by rw [hg_];exact Nat.lt_of_lt_of_le K9.lt e1.size
    refine jg(fun W=>Ur W g5 200 cx∧Ur W g6 200 c6∧Ur W g7 200 c7∧Ur W g8 200 c8∧Ur W g9 200 c9∧Ur W g14 200 c_205∧Ur W g15 200 c_207∧Ur W g16 200 c_209∧Ur W g17 200 c_211∧Ur W g18 200 c_213∧Ur W g19 200 c_215∧Ur W g20 200 c_217∧Below g6 w5_ W)⟨K5.kept E_ K5.lt,
      K6.kept E_ K6.lt,
      K7.kept E_ K7.lt,
      K8.kept E_ K8.lt,
      K9.kept E_ K9.lt,
      K14.kept E_ K14.lt,
      K15.kept E_ K15.lt,
      K16.kept E_ K16.lt,
      K17.kept E_ K17.lt,
      K18.kept E_ K18.lt,
      K19.kept E_ K19.lt,
      by rw [hg_];exact setRow_heap _ _ _ _ _ _ a1.out,
      Below.trans KB(E_.mono(Nat.le_of_lt K6.lt))⟩?_
    rw [← hg_]
    clear K5 K6 K7 K8 K9 K14 K15 K16 K17 K18 K19 KB hg_ a1 E_ e1
    rintro w16_⟨K5,K6,K7,K8,K9,K14,K15,K16,K17,K18,K19,K20,KB⟩
    clear K17
    clear K18
    go_wp2_with(first
     |(refine wpList_load_row rfl 200 _ rfl g19 rfl 200(jc c_215).toArray(0,0)_ K19 rfl rfl(by rw [S_c_215];rfl)?_;go_frame))
    refine(j9 n_215 n_215).mono ?_
    rintro e u_⟨c_219,n_219,rfl,e1⟩
    obtain⟨v_220,hv_220⟩:∃v,v=qr v_216 v_216:=⟨_,rfl⟩
    rw [← hv_220] at n_219
    replace hv_220:=hd(fun _:Unit=>hv_220)
    have S_c_219:=jn n_219.len
    have O_c_219:=jw c_219
    have mK5:=K5.kept e1 K5.lt
    have mK6:=K6.kept e1 K6.lt
    have mK7:=K7.kept e1 K7.lt
    have mK8:=K8.kept e1 K8.lt
    have mK9:=K9.kept e1 K9.lt
    have mK14:=K14.kept e1 K14.lt
    have mK15:=K15.kept e1 K15.lt
    have mK16:=K16.kept e1 K16.lt
    have mK19:=K19.kept e1 K19.lt
    have mK20:=K20.kept e1 K20.lt
    have mKB:=Below.trans KB(e1.mono(Nat.le_of_lt K6.lt))
    go_upto_region 26 with(first
     |(refine wpList_store_row rfl 200 _ _ rfl g7(jc c_219).toArray rfl rfl 200 _ mK7(by rw [S_c_219];rfl)(by rw [S_c_219,S_c7])O_c_219 ?_;simp only [Act.put]))
    refine jg(fun W=>Ur W g5 200 cx∧Ur W g6 200 c6∧Ur W g7 200 c_219∧Ur W g8 200 c8∧Ur W g9 200 c9∧Ur W g14 200 c_205∧Ur W g15 200 c_207∧Ur W g16 200 c_209∧Ur W g19 200 c_215∧Ur W g20 200 c_217∧Below g6 w5_ W)⟨mK5.so(by omega),
      mK6.so(by omega),
      setRow_heap _ _ _ _ _ _ mK7,
      mK8.so(by omega),
      mK9.so(by omega),
      mK14.so(by omega),
      mK15.so(by omega),
      mK16.so(by omega),
      mK19.so(by omega),
      mK20.so(by omega),
      below_setRow mKB(by omega)_⟩?_
    clear K5 K6 K7 K8 K9 K14 K15 K16 K19 K20 KB e1 mK5 mK6 mK7 mK8 mK9 mK14 mK15 mK16 mK19 mK20 mKB
    rintro w17_⟨K5,K6,K7,K8,K9,K14,K15,K16,K19,K20,KB⟩
    clear K19
    have Q5:=K5.q
    have Q20:=K20.q
    refine qgF(R:=Ext)Ext.refl(fun _ _ _=>Ext.trans) [0,1,2,3,4] [5] [0,0,0,6,15,31] [true,true,true,true,true,false] ?_
    refine jl(fun _=>Ext.refl _)_ rfl(v:= .agg(jc cx).toArray)(d:=76)rfl rfl ?_ ?_
    ·intro a_ w_ hev hR hk
     have e5:a_.eval(.tmp 5)=_:=hk 5 rfl
     exact(jd rfl e5(Q5.out w_(Ext.trans(Ext.refl _).drew hR))rfl rfl(by rw [S_cx];rfl))
    refine jl(fun _=>Ext.refl _)_ rfl(v:= .agg(jc c_217).toArray)(d:=77)rfl rfl ?_ ?_
    ·intro a_ w_ hev hR hk
     have e20:a_.eval(.tmp 20)=_:=hk 20 rfl
     exact(jd rfl e20(Q20.out w_(Ext.trans(Ext.refl _).drew hR))rfl rfl(by rw [S_c_217];rfl))
    refine jl(fun _=>Ext.refl _)_ rfl(v:= .agg(jc c_217).toArray)(d:=78)rfl rfl ?_ ?_
    ·intro a_ w_ hev hR hk
     have e20:a_.eval(.tmp 20)=_:=hk 20 rfl
     exact(jd rfl e20(Q20.out w_(Ext.trans(Ext.refl _).drew hR))rfl rfl(by rw [S_c_217];rfl))
    refine jx _ rfl(fun u _=>∃es,u= .agg(jc es).toArray∧IsN es(qr v_218 v_218))(d:=79)rfl(fun _ _ _ h _=>h)rfl ?_ ?_
    ·intro a_ w_ hev hR hk K1 hK1
     have e76:a_.eval(.tmp 76)=_:=hk 76 rfl
     have e77:a_.eval(.tmp 77)=_:=hk 77 rfl
     clear hk
     have f76:=jz.trans e76
     have f77:=jz.trans e77
     go_simp
     refine(j9 n_217 n_217).mono ?_
     rintro e_ w2_⟨fs_,hf_,rfl,x_⟩
     exact hK1.out _ _ x_⟨fs_,rfl,hf_⟩
    refine jx _ rfl(fun u _=>∃es,u= .agg(jc es).toArray∧IsN es(qr x(qr v_218 v_218)))(d:=80)rfl(fun _ _ _ h _=>h)rfl ?_ ?_
    ·intro a_ w_ hev hR hk K1 hK1
     have e75:a_.eval(.tmp 75)=_:=hk 75 rfl
     obtain⟨es_78,e78,n78⟩:∃es,a_.eval(.tmp 78)= .agg(jc es).toArray∧IsN es _:=hk 78 rfl
     clear hk
     have f75:=jz.trans e75
     have f78:=jz.trans e78
     go_simp
     refine(j9 n_cx n78).mono ?_
     rintro e_ w2_⟨fs_,hf_,rfl,x_⟩
     exact hK1.out _ _ x_⟨fs_,rfl,hf_⟩
    intro v_ wq_ hR hV_ hN_
    obtain⟨hv4,hv3,hv2,hv1,hv0,_⟩ :=hV_
    replace hv0:v_ 0=_:=hv0
    replace hv1:v_ 1=_:=hv1
    replace hv2:v_ 2=_:=hv2
    skip
    skip
    dsimp only [putE,zu]
    obtain⟨es_3,hv3,hn_3⟩ :=hv3
    obtain⟨es_4,hv4,hn_4⟩ :=hv4
    clear hN_
    rw [hv0,hv1,hv2,hv3,hv4]
    go_frame
    clear hv0 hv1 hv2 hv3 hv4
    generalize es_4=c_221 at *
    have n_221:=hn_4
    clear hn_3 hn_4
    obtain⟨v_222,hv_222⟩:∃v,v=qr x(qr v_218 v_218):=⟨_,rfl⟩
    rw [← hv_222] at n_221
    replace hv_222:=hd(fun _:Unit=>hv_222)
    have S_c_221:=jn n_221.len
    have O_c_221:=jw c_221
    have mm_:=K9.kept((Ext.refl w17_).drew.trans hR)K9.lt
    refine qi(z:=5)_ rfl rfl(by kernel_rfl)?_
    intro K1 hK1
    refine wp_store_row _ _ _ rfl g9(jc c_221).toArray rfl rfl 200(jc c9).toArray mm_(by rw [S_c_221];rfl)(by rw [S_c_221,S_c9])O_c_221 ?_
    refine hK1.out _ _ ?_
    clear hK1 K1
    refine qQ(by kernel_rfl)?_
    have mK5:=K5.kept((Ext.refl w17_).drew.trans hR)K5.lt
    have mK6:=K6.kept((Ext.refl w17_).drew.trans hR)K6.lt
    have mK7:=K7.kept((Ext.refl w17_).drew.trans hR)K7.lt
    have mK8:=K8.kept((Ext.refl w17_).drew.trans hR)K8.lt
    have mK9:=K9.kept((Ext.refl w17_).drew.trans hR)K9.lt
    have mK14:=K14.kept((Ext.refl w17_).drew.trans hR)K14.lt
    have mK15:=K15.kept((Ext.refl w17_).drew.trans hR)K15.lt
    have mK16:=K16.kept((Ext.refl w17_).drew.trans hR)K16.lt
    have mK20:=K20.kept((Ext.refl w17_).drew.trans hR)K20.lt
    have mKB:=Below.trans KB(((Ext.refl w17_).drew.trans hR).mono(Nat.le_of_lt K6.lt))
    refine ye(fun W=>Ur W g5 200 cx∧Ur W g6 200 c6∧Ur W g7 200 c_219∧Ur W g8 200 c8∧Ur W g9 200 c_221∧Ur W g14 200 c_205∧Ur W g15 200 c_207∧Ur W g16 200 c_209∧Ur W g20 200 c_217∧Below g6 w5_ W)⟨mK5.so(by omega),
      mK6.so(by omega),
      mK7.so(by omega),
      mK8.so(by omega),
      setRow_heap _ _ _ _ _ _ mK9,
      mK14.so(by omega),
      mK15.so(by omega),
      mK16.so(by omega),
      mK20.so(by omega),
      below_setRow mKB(by omega)_⟩?_
    clear K5 K6 K7 K8 K9 K14 K15 K16 K20 KB mm_ hR mK5 mK6 mK7 mK8 mK9 mK14 mK15 mK16 mK20 mKB Q5 Q20
    rintro w18_⟨K5,K6,K7,K8,K9,K14,K15,K16,K20,KB⟩
    clear K20
    go_wp2_with(first
     |(refine wpList_load_row rfl 200 _ rfl g14 rfl 200(jc c_205).toArray(0,0)_ K14 rfl rfl(by rw [S_c_205];rfl)?_;go_frame)
     |(refine wpList_load_row rfl 200 _ rfl g15 rfl 200(jc c_207).toArray(0,0)_ K15 rfl rfl(by rw [S_c_207];rfl)?_;go_frame))
    refine(j9 n_205 n_207).mono ?_
    rintro e u_⟨c_223,n_223,rfl,e1⟩
    obtain⟨v_224,hv_224⟩:∃v,v=qr v_206 v_208:=⟨_,rfl⟩
    rw [← hv_224] at n_223
    replace hv_224:=hd(fun _:Unit=>hv_224)
    have S_c_223:=jn n_223.len
    have O_c_223:=jw c_223
    have mK5:=K5.kept e1 K5.lt
    have mK6:=K6.kept e1 K6.lt
    have mK7:=K7.kept e1 K7.lt
    have mK8:=K8.kept e1 K8.lt
    have mK9:=K9.kept e1 K9.lt
    have mK14:=K14.kept e1 K14.lt
    have mK15:=K15.kept e1 K15.lt
    have mK16:=K16.kept e1 K16.lt
    have mKB:=Below.trans KB(e1.mono(Nat.le_of_lt K6.lt))
    go_upto_region 28 with(first
     |(refine wpList_store_row rfl 200 _ _ rfl g6(jc c_223).toArray rfl rfl 200 _ mK6(by rw [S_c_223];rfl)(by rw [S_c_223,S_c6])O_c_223 ?_;simp only [Act.put]))
    refine jg(fun W=>Ur W g5 200 cx∧Ur W g6 200 c_223∧Ur W g7 200 c_219∧Ur W g8 200 c8∧Ur W g9 200 c_221∧Ur W g14 200 c_205∧Ur W g15 200 c_207∧Ur W g16 200 c_209∧Below g6 w5_ W)⟨mK5.so(by omega),
      setRow_heap _ _ _ _ _ _ mK6,
      mK7.so(by omega),
      mK8.so(by omega),
      mK9.so(by omega),
      mK14.so(by omega),
      mK15.so(by omega),
      mK16.so(by omega),
      below_setRow mKB(by omega)_⟩?_
    clear K5 K6 K7 K8 K9 K14 K15 K16 KB e1 mK5 mK6 mK7 mK8 mK9 mK14 mK15 mK16 mKB
    rintro w19_⟨K5,K6,K7,K8,K9,K14,K15,K16,KB⟩
    clear K15
    have Q14:=K14.q
    have Q16:=K16.q
    refine qgF(R:=Ext)Ext.refl(fun _ _ _=>Ext.trans) [0,1,2,3,4,5,6] [7] [0,0,0,0,12,30,63,127] [true,true,true,true,true,true,true,false] ?_
    refine jl(fun _=>Ext.refl _)_ rfl(v:= .agg(jc c_209).toArray)(d:=84)rfl rfl ?_ ?_
    ·intro a_ w_ hev hR hk
     have e16:a_.eval(.tmp 16)=_:=hk 16 rfl
     exact(jd rfl e16(Q16.out w_(Ext.trans(Ext.refl _).drew hR))rfl rfl(by rw [S_c_209];rfl))
    refine jl(fun _=>Ext.refl _)_ rfl(v:= .agg(jc c_205).toArray)(d:=85)rfl rfl ?_ ?_
    ·intro a_ w_ hev hR hk
     have e14:a_.eval(.tmp 14)=_:=hk 14 rfl
     exact(jd rfl e14(Q14.out w_(Ext.trans(Ext.refl _).drew hR))rfl rfl(by rw [S_c_205];rfl))
    refine jl(fun _=>Ext.refl _)_ rfl(v:= .agg(jc fw).toArray)(d:=86)rfl rfl ?_ ?_
    ·intro a_ w_ hev hR hk
     exact(qe rfl(by simp only [List.map_toArray,List.map_cons,List.map_nil,hev.1];exact hbf.out))
    refine jl(fun _=>Ext.refl _)_ rfl(v:= .agg(jc c_209).toArray)(d:=87)rfl rfl ?_ ?_
    ·intro a_ w_ hev hR hk
     have e16:a_.eval(.tmp 16)=_:=hk 16 rfl
     exact(jd rfl e16(Q16.out w_(Ext.trans(Ext.refl _).drew hR))rfl rfl(by rw [S_c_209];rfl))
    refine jx _ rfl(fun u _=>∃es,u= .agg(jc es).toArray∧IsN es(qr 121665 v_210))(d:=88)rfl(fun _ _ _ h _=>h)rfl ?_ ?_
    ·intro a_ w_ hev hR hk K1 hK1
     have e85:a_.eval(.tmp 85)=_:=hk 85 rfl
     have e86:a_.eval(.tmp 86)=_:=hk 86 rfl
     clear hk
     have f85:=jz.trans e85
     have f86:=jz.trans e86
     go_simp
     refine(j9 n_fw n_209).mono ?_
     rintro e_ w2_⟨fs_,hf_,rfl,x_⟩
     exact hK1.out _ _ x_⟨fs_,rfl,hf_⟩
    refine jx _ rfl(fun u _=>∃es,u= .agg(jc es).toArray∧IsN es(yZ v_206(qr 121665 v_210)))(d:=89)rfl(fun _ _ _ h _=>h)rfl ?_ ?_
    ·intro a_ w_ hev hR hk K1 hK1
     have e84:a_.eval(.tmp 84)=_:=hk 84 rfl
     obtain⟨es_87,e87,n87⟩:∃es,a_.eval(.tmp 87)= .agg(jc es).toArray∧IsN es _:=hk 87 rfl
     clear hk
     have f84:=jz.trans e84
     have f87:=jz.trans e87
     go_simp
     refine(yn n_205 n87).mono ?_
     rintro e_ w2_⟨fs_,hf_,rfl,x_⟩
     exact hK1.out _ _ x_⟨fs_,rfl,hf_⟩
    refine jx _ rfl(fun u _=>∃es,u= .agg(jc es).toArray∧IsN es(qr v_210(yZ v_206(qr 121665 v_210))))(d:=90)rfl(fun _ _ _ h _=>h)rfl ?_ ?_
    ·intro a_ w_ hev hR hk K1 hK1
     have e83:a_.eval(.tmp 83)=_:=hk 83 rfl
     obtain⟨es_88,e88,n88⟩:∃es,a_.eval(.tmp 88)= .agg(jc es).toArray∧IsN es _:=hk 88 rfl
     clear hk
     have f83:=jz.trans e83
     have f88:=jz.trans e88
     go_simp
     refine(j9 n_209 n88).mono ?_
     rintro e_ w2_⟨fs_,hf_,rfl,x_⟩
     exact hK1.out _ _ x_⟨fs_,rfl,hf_⟩
    intro v_ wq_ hR hV_ hN_
    obtain⟨hv6,hv5,hv4,hv3,hv2,hv1,hv0,_⟩ :=hV_
    replace hv0:v_ 0=_:=hv0
    replace hv1:v_ 1=_:=hv1
    replace hv2:v_ 2=_:=hv2
    replace hv3:v_ 3=_:=hv3
    skip
    skip
    skip
    dsimp only [putE,zu]
    obtain⟨es_4,hv4,hn_4⟩ :=hv4
    obtain⟨es_5,hv5,hn_5⟩ :=hv5
    obtain⟨es_6,hv6,hn_6⟩ :=hv6
    clear hN_
    rw [hv0,hv1,hv2,hv3,hv4,hv5,hv6]
    go_frame
    clear hv0 hv1 hv2 hv3 hv4 hv5 hv6
    generalize es_6=c_225 at *
    have n_225:=hn_6
    clear hn_4 hn_5 hn_6
    obtain⟨v_226,hv_226⟩:∃v,v=qr v_210(yZ v_206(qr 121665 v_210)):=⟨_,rfl⟩
    rw [← hv_226] at n_225
    replace hv_226:=hd(fun _:Unit=>hv_226)
    have S_c_225:=jn n_225.len
    have O_c_225:=jw c_225
    have mm_:=K8.kept((Ext.refl w19_).drew.trans hR)K8.lt
    refine qi(z:=7)_ rfl rfl(by kernel_rfl)?_
    intro K1 hK1
    refine wp_store_row _ _ _ rfl g8(jc c_225).toArray rfl rfl 200(jc c8).toArray mm_(by rw [S_c_225];rfl)(by rw [S_c_225,S_c8])O_c_225 ?_
    refine hK1.out _ _ ?_
    clear hK1 K1
    refine qQ(by kernel_rfl)?_
    have mK5:=K5.kept((Ext.refl w19_).drew.trans hR)K5.lt
    have mK6:=K6.kept((Ext.refl w19_).drew.trans hR)K6.lt
    have mK7:=K7.kept((Ext.refl w19_).drew.trans hR)K7.lt
    have mK8:=K8.kept((Ext.refl w19_).drew.trans hR)K8.lt
    have mK9:=K9.kept((Ext.refl w19_).drew.trans hR)K9.lt
    have mK14:=K14.kept((Ext.refl w19_).drew.trans hR)K14.lt
    have mK16:=K16.kept((Ext.refl w19_).drew.trans hR)K16.lt
    have mKB:=Below.trans KB(((Ext.refl w19_).drew.trans hR).mono(Nat.le_of_lt K6.lt))
    refine ye(fun W=>Ur W g5 200 cx∧Ur W g6 200 c_223∧Ur W g7 200 c_219∧Ur W g8 200 c_225∧Ur W g9 200 c_221∧Ur W g14 200 c_205∧Ur W g16 200 c_209∧Below g6 w5_ W)⟨mK5.so(by omega),
      mK6.so(by omega),
      mK7.so(by omega),
      setRow_heap _ _ _ _ _ _ mK8,
      mK9.so(by omega),
      mK14.so(by omega),
      mK16.so(by omega),
      below_setRow mKB(by omega)_⟩?_
    clear K5 K6 K7 K8 K9 K14 K16 KB mm_ hR mK5 mK6 mK7 mK8 mK9 mK14 mK16 mKB Q14 Q16
    rintro w20_⟨K5,K6,K7,K8,K9,K14,K16,KB⟩
    clear K14
    clear K16
    have KX:=(P3.out _ KB).1
    go_wp2_with(refine wpList_load_row rfl 23 _ rfl w.heap.size rfl 23(cellsOf ks).toArray(0,0)_ KX.1 rfl rfl(by rw [S_ks];rfl)?_;go_frame)
    refine(BT.out _).mono ?_
    rintro e u_⟨rfl,e1⟩
    clear KX
    go_wp2_with fail
    have NX:S(m+1)=(v_224,v_220,v_226,v_222):=by
     rw [S1m.out()]
     replace hv_202:=hv_202.out()
     replace hv_204:=hv_204.out()
     replace hv_206:=hv_206.out()
     replace hv_208:=hv_208.out()
     replace hv_210:=hv_210.out()
     replace hv_212:=hv_212.out()
     replace hv_214:=hv_214.out()
     replace hv_216:=hv_216.out()
     replace hv_218:=hv_218.out()
     replace hv_220:=hv_220.out()
     replace hv_222:=hv_222.out()
     replace hv_224:=hv_224.out()
     replace hv_226:=hv_226.out()
     subst hv_226 hv_224 hv_222 hv_220 hv_218 hv_216 hv_214 hv_212 hv_210 hv_208 hv_206 hv_204 hv_202
     rw [jfL x]
     rfl
    exact⟨⟨m+1,c_223,c_219,c_225,c_221,hm1.out,by rw [← hbn1.out],K6.kept e1 K6.lt,
      K7.kept e1 K7.lt,
      K8.kept e1 K8.lt,
      K9.kept e1 K9.lt,by rw [NX];exact n_223,by rw [NX];exact n_219,by rw [NX];exact n_225,by rw [NX];exact n_221,Below.trans KB(e1.mono(Nat.le_of_lt K6.lt))⟩,by simp [intOf];omega⟩
  ·obtain rfl:m=255:=by omega
   have S_c6:=jn n6.len
   have S_c8:=jn n8.len
   have Q6:=K6.q
   have Q8:=K8.q
   have QZ:Hid(∀s,Ext wr s→Ky s(w.heap.size+1+1)zk∧Ext w s):=fun s e=>by
    have:=P3.out s(Below.trans KB(e.mono(Nat.le_of_lt K6.lt)))
    exact⟨this.2.1,this.2.2.2⟩
   have NKC:Hid(∀(W:World)(es:List Nat),IsN es(qr(S 255).1(invF(S 255).2.2.1))→Calls Tryz.prog 104 #[.agg(jc es).toArray] W fun e w'=>e= .returned(.agg(cellsOf rk).toArray)∧Ext W w'):=fun W es h=>by rw [hrk.out];exact jeE h
   clear K6 K7 K8 K9 n7 n9 KB P3 BIT S1
   go_wp2_with fail
   refine qgF(R:=Ext)Ext.refl(fun _ _ _=>Ext.trans) [0,1,2,3,4] [5] [0,0,2,7,15,31] [true,true,true,true,true,false] ?_
   refine jl(fun _=>Ext.refl _)_ rfl(v:= .agg(jc c6).toArray)(d:=100)rfl rfl ?_ ?_
   ·intro a_ w_ hev hR hk
    have e6:a_.eval(.tmp 6)=_:=hk 6 rfl
    exact(jd rfl e6(Q6.out w_(Ext.trans(Ext.refl _).drew hR))rfl rfl(by rw [S_c6];rfl))
   refine jl(fun _=>Ext.refl _)_ rfl(v:= .agg(jc c8).toArray)(d:=101)rfl rfl ?_ ?_
   ·intro a_ w_ hev hR hk
    have e8:a_.eval(.tmp 8)=_:=hk 8 rfl
    exact(jd rfl e8(Q8.out w_(Ext.trans(Ext.refl _).drew hR))rfl rfl(by rw [S_c8];rfl))
   refine jx _ rfl(fun u _=>∃es,u= .agg(jc es).toArray∧IsN es(zK(S 255).2.2.1))(d:=102)rfl(fun _ _ _ h _=>h)rfl ?_ ?_
   ·intro a_ w_ hev hR hk K1 hK1
    have e100:a_.eval(.tmp 100)=_:=hk 100 rfl
    clear hk
    have f100:=jz.trans e100
    go_simp
    refine(jeD n8).mono ?_
    rintro e_ w2_⟨fs_,hf_,rfl,x_⟩
    exact hK1.out _ _ x_⟨fs_,rfl,hf_⟩
   refine jx _ rfl(fun u _=>∃es,u= .agg(jc es).toArray∧IsN es(qr(S 255).1(zK(S 255).2.2.1)))(d:=103)rfl(fun _ _ _ h _=>h)rfl ?_ ?_
   ·intro a_ w_ hev hR hk K1 hK1
    have e99:a_.eval(.tmp 99)=_:=hk 99 rfl
    obtain⟨es_101,e101,n101⟩:∃es,a_.eval(.tmp 101)= .agg(jc es).toArray∧IsN es _:=hk 101 rfl
    clear hk
    have f99:=jz.trans e99
    have f101:=jz.trans e101
    go_simp
    refine(j9 n6 n101).mono ?_
    rintro e_ w2_⟨fs_,hf_,rfl,x_⟩
    exact hK1.out _ _ x_⟨fs_,rfl,hf_⟩
   refine jx _ rfl(fun u _=>u= .agg(cellsOf rk).toArray)(d:=104)rfl(fun _ _ _ h _=>h)rfl ?_ ?_
   ·intro a_ w_ hev hR hk K1 hK1
    obtain⟨es_102,e102,n102⟩:∃es,a_.eval(.tmp 102)= .agg(jc es).toArray∧IsN es _:=hk 102 rfl
    clear hk
    have f102:=jz.trans e102
    go_simp
    refine(NKC.out _ _ n102).mono ?_
    rintro e_ w2_⟨rfl,x_⟩
    exact hK1.out _ _ x_ rfl
   intro v_ wq_ hR hV_ hN_
   obtain⟨hv4,hv3,hv2,hv1,hv0,_⟩ :=hV_
   replace hv0:v_ 0=_:=hv0
   replace hv1:v_ 1=_:=hv1
   skip
   skip
   replace hv4:v_ 4=_:=hv4
   dsimp only [yP,zu]
   obtain⟨es_2,hv2,hn_2⟩ :=hv2
   obtain⟨es_3,hv3,hn_3⟩ :=hv3
   clear hN_
   rw [hv0,hv1,hv2,hv3,hv4]
   go_frame
   clear hv0 hv1 hv2 hv3 hv4
   have kz:=hd(QZ.out wq_((Ext.refl _).drew.trans hR))
   refine qi(z:=5)_ rfl rfl(by kernel_rfl)?_
   intro K1 hK1
   refine wp_store_row _ _ _ rfl(w.heap.size+1+1)(cellsOf rk).toArray rfl rfl 23(cellsOf zk).toArray kz.out.1.1(by rw [S_rk];rfl)(by rw [S_rk,S_zk])O_rk ?_
   refine hK1.out _ _ ?_
   clear hK1 K1
   refine qQ(by kernel_rfl)?_
   clear hR
   go_wp2_with fail
   (try simp only [Exit.inBlock,Exit.then])
   refine bodyPost_ret(results_cell_row rfl _ _(w.heap.size+1+1)23(cellsOf rk).toArray(0,0)_ rfl(setRow_heap _ _ _ _ _ _ kz.out.1.1)rfl rfl(by rw [S_rk];rfl))rfl ?_
   exact⟨rfl,below_setRow kz.out.2(by omega)_⟩
end
end Go.Proofs.YtakpgbaijkhpmaaGreatDoor
