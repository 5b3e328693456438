import Derived.Test.YtakpgbaijkhpmaaGreatDoorPkAN
import Derived.Test.YtakpgbaijkhpmaaGreatDoorPkAL
import Derived.Test.YtakpgbaijkhpmaaGreatDoorPkAA
import Derived.Lib.LaidTab
import Derived.Test.YtakpgbaijkhpmaaGreatDoorPkAH
open Go renaming Program→jpo,TypeId→jpp,heap_alloc_new→jqd
open Go.Act renaming put→jpE
open Go.Obj renaming cells→jqL
open Go.Proofs.Tryz renaming prog→jpk,underlying23→jqq
open Int renaming le_refl→jq8
open List renaming length_append→jpt,map_cons→jqn,map_nil→jqs,map_toArray→jqr,mem_cons→jpr,replicate→jqa,size_toArray→jqh,take_left'→jqi
open Nat renaming le_of_eq→jq1,le_trans→jpN
open Option.some renaming inj→jpq
namespace Go.Proofs.YtakpgbaijkhpmaaGreatDoor
set_option maxHeartbeats 64000000
set_option linter.unusedSimpArgs false
set_option linter.unusedVariables false
set_option maxRecDepth 100000
section
open Go.ChangeShapes Go.WideShapes Go.ChangeAt Go.RowKit Go.Deep
theorem ja1:jC [] [120]= [236,48,140,7,200,53,130,198,99,233,34,6,108,68,146,59,247,27,193,4,255,184,36,121,251,6,220,34,80,60,155,12]:=by decide+kernel
theorem jlb:jO [120] 0= [252,126,216,77,23,179,145,126,229,75,171,213,36,244,170,62,150,17,54,87,68,43,212,24,231,39,116,16,168,173,31,55]:=by unfold jO;rw [ja1];decide+kernel
theorem jlP:jC [] [252,126,216,77,23,179,145,126,229,75,171,213,36,244,170,62,150,17,54,87,68,43,212,24,231,39,116,16,168,173,31,55]= [85,94,105,132,167,67,164,39,46,142,119,79,225,64,255,116,19,169,159,152,203,40,62,224,166,157,36,84,80,60,4,84]:=by decide+kernel
theorem jlv:kL (jY [85,94,105,132,167,67,164,39,46,142,119,79,225,64,255,116,19,169,159,152,203,40,62,224,166,157,36,84,80,60,4,84] 9)= [212,109,48,244,21,12,18,163,143,160,26,211,133,84,163,51,58,175,76,154,188,215,219,21,118,173,117,146,220,132,82,87]:=by decide+kernel
theorem jky:jE (jO [120] 0)= [212,109,48,244,21,12,18,163,143,160,26,211,133,84,163,51,58,175,76,154,188,215,219,21,118,173,117,146,220,132,82,87]:=by rw [jlb];unfold jE;rw [jlP,jlv]
theorem jlc:jO [120] 1= [229,128,211,26,192,109,49,110,192,80,240,148,133,152,44,0,59,102,252,20,7,217,111,87,223,3,142,47,169,240,224,34]:=by unfold jO;rw [ja1];decide+kernel
theorem jlQ:jC [] [229,128,211,26,192,109,49,110,192,80,240,148,133,152,44,0,59,102,252,20,7,217,111,87,223,3,142,47,169,240,224,34]= [223,130,14,136,235,26,124,85,63,121,27,236,82,97,185,69,70,72,104,155,158,228,165,243,103,97,42,143,96,106,199,87]:=by decide+kernel
theorem jlw:kL (jY [223,130,14,136,235,26,124,85,63,121,27,236,82,97,185,69,70,72,104,155,158,228,165,243,103,97,42,143,96,106,199,87] 9)= [177,127,78,226,150,20,25,164,132,51,117,60,226,233,149,4,113,178,29,22,36,87,161,72,56,98,85,1,233,43,18,103]:=by decide+kernel
theorem jh5:jE (jO [120] 1)= [177,127,78,226,150,20,25,164,132,51,117,60,226,233,149,4,113,178,29,22,36,87,161,72,56,98,85,1,233,43,18,103]:=by rw [jlc];unfold jE;rw [jlQ,jlw]
theorem jld:jO [120] 2= [22,158,187,107,153,145,28,94,129,249,121,95,246,228,94,245,174,121,194,20,160,7,186,127,183,241,185,144,37,241,213,112]:=by unfold jO;rw [ja1];decide+kernel
theorem jlR:jC [] [22,158,187,107,153,145,28,94,129,249,121,95,246,228,94,245,174,121,194,20,160,7,186,127,183,241,185,144,37,241,213,112]= [11,170,33,210,254,5,255,233,69,209,120,55,51,0,253,118,167,157,118,164,44,117,27,18,161,6,181,97,59,150,47,217]:=by decide+kernel
theorem jlx:kL (jY [11,170,33,210,254,5,255,233,69,209,120,55,51,0,253,118,167,157,118,164,44,117,27,18,161,6,181,97,59,150,47,217] 9)= [160,251,3,70,222,90,11,255,36,81,220,218,241,8,16,51,240,179,4,66,248,174,135,25,230,82,211,57,60,167,193,61]:=by decide+kernel
theorem jh6:jE (jO [120] 2)= [160,251,3,70,222,90,11,255,36,81,220,218,241,8,16,51,240,179,4,66,248,174,135,25,230,82,211,57,60,167,193,61]:=by rw [jld];unfold jE;rw [jlR,jlx]
theorem jle:jO [120] 3= [197,216,223,126,143,161,200,210,172,130,151,20,150,197,204,199,11,33,62,53,189,22,138,195,66,218,184,222,100,20,77,220]:=by unfold jO;rw [ja1];decide+kernel
theorem jlS:jC [] [197,216,223,126,143,161,200,210,172,130,151,20,150,197,204,199,11,33,62,53,189,22,138,195,66,218,184,222,100,20,77,220]= [36,116,185,18,208,161,46,160,75,181,88,125,226,48,13,18,56,63,158,53,60,148,219,199,129,36,34,38,142,87,225,221]:=by decide+kernel
theorem jly:kL (jY [36,116,185,18,208,161,46,160,75,181,88,125,226,48,13,18,56,63,158,53,60,148,219,199,129,36,34,38,142,87,225,221] 9)= [24,50,181,136,90,88,21,55,66,191,184,3,224,156,208,136,60,42,100,52,200,51,213,56,7,24,187,127,255,215,79,67]:=by decide+kernel
theorem jh7:jE (jO [120] 3)= [24,50,181,136,90,88,21,55,66,191,184,3,224,156,208,136,60,42,100,52,200,51,213,56,7,24,187,127,255,215,79,67]:=by rw [jle];unfold jE;rw [jlS,jly]
theorem jlf:jO [120] 4= [180,44,173,198,172,155,16,105,48,167,32,249,117,114,150,0,78,20,113,241,27,204,232,54,40,246,234,70,232,179,101,73]:=by unfold jO;rw [ja1];decide+kernel
theorem jlT:jC [] [180,44,173,198,172,155,16,105,48,167,32,249,117,114,150,0,78,20,113,241,27,204,232,54,40,246,234,70,232,179,101,73]= [142,168,244,79,95,198,255,84,239,135,78,135,148,228,184,49,48,248,251,96,103,53,75,135,9,128,61,132,69,160,23,82]:=by decide+kernel
theorem jlz:kL (jY [142,168,244,79,95,198,255,84,239,135,78,135,148,228,184,49,48,248,251,96,103,53,75,135,9,128,61,132,69,160,23,82] 9)= [238,20,62,77,240,15,3,149,135,107,153,78,142,160,190,101,221,45,226,11,88,8,167,219,57,205,200,70,106,213,41,122]:=by decide+kernel
theorem jh8:jE (jO [120] 4)= [238,20,62,77,240,15,3,149,135,107,153,78,142,160,190,101,221,45,226,11,88,8,167,219,57,205,200,70,106,213,41,122]:=by rw [jlf];unfold jE;rw [jlT,jlz]
theorem jlg:jO [120] 5= [117,252,122,188,222,87,77,62,15,0,40,80,13,120,234,146,50,184,76,177,166,201,248,108,32,208,237,81,30,16,47,191]:=by unfold jO;rw [ja1];decide+kernel
theorem jlU:jC [] [117,252,122,188,222,87,77,62,15,0,40,80,13,120,234,146,50,184,76,177,166,201,248,108,32,208,237,81,30,16,47,191]= [166,142,59,210,59,159,17,30,140,193,143,211,209,44,0,183,213,101,88,178,4,48,132,34,207,168,37,115,255,198,161,160]:=by decide+kernel
theorem jlA:kL (jY [166,142,59,210,59,159,17,30,140,193,143,211,209,44,0,183,213,101,88,178,4,48,132,34,207,168,37,115,255,198,161,160] 9)= [149,110,209,158,53,198,13,231,174,133,168,143,185,169,110,230,179,16,46,11,180,129,55,140,242,169,1,237,131,228,163,100]:=by decide+kernel
theorem jh9:jE (jO [120] 5)= [149,110,209,158,53,198,13,231,174,133,168,143,185,169,110,230,179,16,46,11,180,129,55,140,242,169,1,237,131,228,163,100]:=by rw [jlg];unfold jE;rw [jlU,jlA]
theorem jlh:jO [120] 6= [37,156,74,54,34,174,41,196,106,102,56,61,158,162,58,43,216,185,138,177,145,242,108,84,145,168,117,124,116,33,104,129]:=by unfold jO;rw [ja1];decide+kernel
theorem jlV:jC [] [37,156,74,54,34,174,41,196,106,102,56,61,158,162,58,43,216,185,138,177,145,242,108,84,145,168,117,124,116,33,104,129]= [92,199,157,46,140,176,4,94,162,212,86,252,18,151,134,57,128,0,135,247,239,121,247,152,104,169,52,51,162,33,191,255]:=by decide+kernel
theorem jlB:kL (jY [92,199,157,46,140,176,4,94,162,212,86,252,18,151,134,57,128,0,135,247,239,121,247,152,104,169,52,51,162,33,191,255] 9)= [93,166,90,143,58,156,148,32,21,186,49,29,48,4,20,100,114,59,94,162,27,49,170,191,242,212,237,47,252,37,4,115]:=by decide+kernel
theorem jia:jE (jO [120] 6)= [93,166,90,143,58,156,148,32,21,186,49,29,48,4,20,100,114,59,94,162,27,49,170,191,242,212,237,47,252,37,4,115]:=by rw [jlh];unfold jE;rw [jlV,jlB]
theorem jli:jO [120] 7= [229,238,171,79,80,102,154,108,51,48,87,187,238,99,31,237,228,151,95,47,213,171,184,118,87,117,251,176,122,214,52,77]:=by unfold jO;rw [ja1];decide+kernel
theorem jlW:jC [] [229,238,171,79,80,102,154,108,51,48,87,187,238,99,31,237,228,151,95,47,213,171,184,118,87,117,251,176,122,214,52,77]= [14,54,126,18,109,247,238,126,0,82,174,113,116,130,93,206,227,8,68,213,184,217,225,91,111,82,65,45,221,210,240,135]:=by decide+kernel
theorem jlC:kL (jY [14,54,126,18,109,247,238,126,0,82,174,113,116,130,93,206,227,8,68,213,184,217,225,91,111,82,65,45,221,210,240,135] 9)= [7,112,58,141,233,93,104,203,160,109,150,37,71,206,214,18,91,109,210,179,58,138,28,121,82,64,205,109,151,136,55,13]:=by decide+kernel
theorem jib:jE (jO [120] 7)= [7,112,58,141,233,93,104,203,160,109,150,37,71,206,214,18,91,109,210,179,58,138,28,121,82,64,205,109,151,136,55,13]:=by rw [jli];unfold jE;rw [jlW,jlC]
theorem jlj:jO [120] 8= [124,31,42,68,129,18,211,183,224,77,120,56,74,84,151,229,38,160,154,8,225,41,238,228,148,197,29,169,197,8,78,223]:=by unfold jO;rw [ja1];decide+kernel
theorem jlX:jC [] [124,31,42,68,129,18,211,183,224,77,120,56,74,84,151,229,38,160,154,8,225,41,238,228,148,197,29,169,197,8,78,223]= [112,58,194,65,251,7,62,54,235,140,107,133,174,171,244,105,81,50,27,124,110,181,167,105,224,7,100,89,56,101,71,49]:=by decide+kernel
theorem jlD:kL (jY [112,58,194,65,251,7,62,54,235,140,107,133,174,171,244,105,81,50,27,124,110,181,167,105,224,7,100,89,56,101,71,49] 9)= [36,140,188,56,71,236,3,99,140,204,228,245,113,71,228,226,181,245,43,160,125,224,220,31,238,136,82,141,191,27,95,61]:=by decide+kernel
theorem jic:jE (jO [120] 8)= [36,140,188,56,71,236,3,99,140,204,228,245,113,71,228,226,181,245,43,160,125,224,220,31,238,136,82,141,191,27,95,61]:=by rw [jlj];unfold jE;rw [jlX,jlD]
theorem jlk:jO [120] 9= [88,250,11,7,58,55,77,13,88,122,76,77,162,173,236,156,110,3,62,194,136,250,62,210,198,124,85,52,220,128,236,83]:=by unfold jO;rw [ja1];decide+kernel
theorem jlY:jC [] [88,250,11,7,58,55,77,13,88,122,76,77,162,173,236,156,110,3,62,194,136,250,62,210,198,124,85,52,220,128,236,83]= [201,32,148,90,5,238,159,126,165,29,211,252,170,13,213,147,230,137,218,163,142,210,183,17,23,242,146,122,197,159,182,188]:=by decide+kernel
theorem jlE:kL (jY [201,32,148,90,5,238,159,126,165,29,211,252,170,13,213,147,230,137,218,163,142,210,183,17,23,242,146,122,197,159,182,188] 9)= [188,24,212,189,231,102,62,115,76,137,191,111,200,105,72,60,84,90,148,67,74,211,168,20,188,191,132,71,65,226,84,25]:=by decide+kernel
theorem jid:jE (jO [120] 9)= [188,24,212,189,231,102,62,115,76,137,191,111,200,105,72,60,84,90,148,67,74,211,168,20,188,191,132,71,65,226,84,25]:=by rw [jlk];unfold jE;rw [jlY,jlE]
theorem jkJ:jO [120] 10= [234,218,204,102,126,202,101,97,126,125,86,60,195,7,177,66,209,70,118,192,113,201,40,75,201,218,201,222,113,189,227,44]:=by unfold jO;rw [ja1];decide+kernel
theorem jkN:jC [] [234,218,204,102,126,202,101,97,126,125,86,60,195,7,177,66,209,70,118,192,113,201,40,75,201,218,201,222,113,189,227,44]= [26,22,41,69,113,160,219,61,74,164,220,133,180,132,87,28,230,235,179,181,230,252,99,232,199,150,255,84,85,91,251,134]:=by decide+kernel
theorem jkL:kL (jY [26,22,41,69,113,160,219,61,74,164,220,133,180,132,87,28,230,235,179,181,230,252,99,232,199,150,255,84,85,91,251,134] 9)= [173,41,219,91,202,94,68,168,11,112,158,112,255,64,183,169,145,254,107,169,79,63,62,69,34,130,179,151,158,197,130,92]:=by decide+kernel
theorem jjv:jE (jO [120] 10)= [173,41,219,91,202,94,68,168,11,112,158,112,255,64,183,169,145,254,107,169,79,63,62,69,34,130,179,151,158,197,130,92]:=by rw [jkJ];unfold jE;rw [jkN,jkL]
theorem jk0:∀ i,i < 10→jE (jO [120] i)≠jE (jO [120] (i+1)):=by
 intro i hi
 have:i=0∨i=1∨i=2∨i=3∨i=4∨i=5∨i=6∨i=7∨i=8∨i=9:=by omega
 rcases this with rfl | rfl | rfl | rfl | rfl | rfl | rfl | rfl | rfl | rfl
 ·rw [jky,jh5];decide
 ·rw [jh5,jh6];decide
 ·rw [jh6,jh7];decide
 ·rw [jh7,jh8];decide
 ·rw [jh8,jh9];decide
 ·rw [jh9,jia];decide
 ·rw [jia,jib];decide
 ·rw [jib,jic];decide
 ·rw [jic,jid];decide
 ·rw [jid,jjv];decide
end
section
open Go.ChangeShapes Go.WideShapes Go.ChangeAt Go.RowKit Go.Deep Go.Maps
def jb4 (xs:List UInt8):Nat→List UInt8
 | 0=> [98]
 | k+1=>jO xs k
theorem jfN {p n:Int}(h:0≤p∧p≤1000000) (h':0≤n∧n≤1000000):okH p n=true:=by
 unfold okH upB
 simp
 omega
structure Insy (xs ys:List UInt8) (k j:Nat) (s u:Rt) (m:Nat):Prop where
 ins:Insync s u (jb4 xs k) (jb4 ys j)
 rm:u.rm=s.sm
 rev:s.ri=true→u.sm≤s.rm
 b1:s.sm≤m
 b2:0≤u.sm∧u.sm≤m
 b3:0≤s.bf∧s.bf≤m
theorem Insy.sm0 {xs ys:List UInt8}{k j m:Nat}{s u:Rt}(h:Insy xs ys k j s u m):0≤s.sm:=by have:=h.ins.rm;omega
structure Said (s u:Rt) (pr text bs pk:List UInt8) (bf sm:Int) (SB:List UInt8) (S' U':Rt) (pp:Int):Prop where
 lp:pk.length=32
 e:qW s pr text=0
 h:yI s pr text=hdC pk bf sm
 b:yH s pr bs text=SB
 s:yj s pr text=S'
 l:SB.length=text.length+32
 re:yt ⟨u,[],pp⟩ bs pk bf sm SB=0
 rt:Ym ⟨u,[],pp⟩ bs pk bf sm SB=text
 rs:zf ⟨u,[],pp⟩ bs pk bf sm SB=⟨U',[],pp⟩
theorem jbJ {xs ys:List UInt8}{k j m:Nat}{s u:Rt}(h:Insy xs ys k j s u m) (hm:m≤1000){text:List UInt8}(ht:text.length≤300) (pr bs:List UInt8) (pp:Int):
 Said s u pr text bs (jE (jb4 xs k)) s.bf s.sm (qA (jM s.sc qd) (qb bs (jE (jb4 xs k)) s.bf s.sm) text) (jW s) (yX u) pp∧yg s text k=k∧Insy xs ys k j (jW s) (yX u) (m+1):=by
 have h0:=h.sm0
 have hb1:=h.b1
 have hb2:=h.b2
 have hb3:=h.b3
 have hk:okH s.bf s.sm=true:=jfN (by omega) (by omega)
 obtain ⟨e,eS,eH,eB,eK⟩:=jeZ (p:=pr) h.ins.si h.ins.mt ht hk
 rw [jaE h.ins.own] at eH eB
 obtain ⟨r1,r2,r3,r4,r5⟩:=jgi h.ins h.rm pp bs text hk
 refine ⟨⟨YH _,e,eH,eB bs,eS,JV _ _ _,r1,r2,r3⟩,eK k,⟨r4,r5,h.rev,?_,⟨hb2.1,?_⟩,⟨hb3.1,?_⟩⟩⟩
 ·show s.sm+1≤((m+1:Nat):Int);omega
 ·show u.sm≤((m+1:Nat):Int);omega
 ·show s.bf≤((m+1:Nat):Int);omega
theorem jaN {x y:List UInt8}{s u T:Rt}{pr text bs:List UInt8}{pp:Int}(ha:Ahead T u x y) (h0:T.sm=0) (hk:okH T.bf 0=true)
 (e:qW s pr text=0) (eS:yj s pr text=jW T) (eH:yI s pr text=hdC T.pub T.bf T.sm) (eB:∀ bs,yH s pr bs text=qA (jM T.sc qd) (qb bs T.pub T.bf T.sm) text):
 ∃ S' U' SB,Said s u pr text bs (jE x) T.bf 0 SB S' U' pp∧S'.sm=1∧S'.bf=T.bf∧S'.ri=T.ri∧S'.rm=T.rm∧U'.sm=u.sm∧Insync S' U' x y∧U'.rm=S'.sm:=by
 obtain ⟨r1,r2,r3,r4,r5⟩:=jal ha h0 pp bs text (by rw [h0];exact hk)
 have f4:=(QX ha).2.2.2
 have hp:=jaE ha.own
 have eB':=eB bs
 rw [hp,h0] at eH eB'
 rw [h0] at r1 r2 r3
 generalize za u (jE x)=F at *
 have hS:(jW T).sm=1:=by show T.sm+1=1;rw [h0];rfl
 have hU:(yX F).sm=u.sm:=f4
 have l:=JV (jM T.sc qd) (qb bs (jE x) T.bf 0) text
 generalize qA (jM T.sc qd) (qb bs (jE x) T.bf 0) text=SB at *
 exact ⟨jW T,yX F,SB,⟨YH x,e,eH,eB',eS,l,r1,r2,r3⟩,hS,rfl,rfl,rfl,hU,r4,r5⟩
theorem jbK {xs ys:List UInt8}{k j m:Nat}{s u:Rt}(h:Insy xs ys k j s u m) (hm:m≤1000){text:List UInt8}(ht:text.length≤300){z:List UInt8}(hzz:z=jO ys j) (hz:jE z≠jE (jb4 ys j)) (bs:List UInt8) (pp:Int):
 ∃ S' U' SB,Said u s (j3 z) text bs (jE z) u.sm 0 SB S' U' pp∧yg u text j=j+1∧S'.sm=1∧S'.bf=u.sm∧U'.sm=s.sm∧Insy ys xs (j+1) k S' U' (m+1):=by
 have h0:=h.sm0
 have hb1:=h.b1
 have hb2:=h.b2
 obtain ⟨t1,t2,t3,t4,t5,t6⟩:=jff h.ins h.rm h.rev hz
 have hk0:okH u.sm 0=true:=jfN (by omega) (by omega)
 have hk:okH (qg u (j3 z)).bf (qg u (j3 z)).sm=true:=by rw [t3,t4];exact hk0
 obtain ⟨e,eS,eH,eB,eK⟩:=jix (p:=j3 z) h.ins.umt t1 ht hk
 generalize qg u (j3 z)=T at *
 obtain ⟨S',U',SB,q1,q2,q3,q4,q5,q6,q7,q8⟩:=jaN (bs:=bs) (pp:=pp) t2 t3 (by rw [t4];exact hk0) e eS eH eB
 rw [t4] at q1 q3
 have cs:jb4 ys (j+1)=z:=hzz.symm
 refine ⟨S',U',SB,q1,eK j,q2,q3,q6,⟨by rw [cs];exact q7,q8,?_,?_,?_,?_⟩⟩
 ·intro _;rw [q6,q5,t6];exact jq8 _
 ·rw [q2];omega
 ·rw [q6];omega
 ·rw [q3];omega
theorem jeW (shared:List UInt8){text:List UInt8}(ht:text.length≤300){z:List UInt8}(hzz:z=jO [120] 0) (pr bs:List UInt8) (pp:Int):
 ∃ S' U' SB,Said (J2 shared) (YB shared zP) pr text bs (jE z) 0 0 SB S' U' pp∧yg (J2 shared) text 1=1∧S'.sm=1∧S'.bf=0∧U'.sm=0∧Insy [120] [121] 1 0 S' U' 1:=by
 obtain ⟨t2,t3,t4,t5⟩:=Zw shared
 have cs:jb4 [120] 1=z:=hzz.symm
 rw [←hzz] at t2
 have u0:(YB shared zP).sm=0:=rfl
 generalize YB shared zP=u at *
 generalize J2 shared=T at *
 have hk:okH T.bf T.sm=true:=by rw [t3,t4];rfl
 obtain ⟨e,eS,eH,eB,eK⟩:=jeZ (p:=pr) t2.si t2.mt ht hk
 obtain ⟨S',U',SB,q1,q2,q3,q4,q5,q6,q7,q8⟩:=jaN (bs:=bs) (pp:=pp) t2 t3 (by rw [t4];rfl) e eS eH eB
 rw [t4] at q1 q3
 rw [u0] at q6
 refine ⟨S',U',SB,q1,eK 1,q2,q3,q6,⟨by rw [cs];exact q7,q8,?_,?_,?_,?_⟩⟩
 ·intro y;rw [q4,t5] at y;cases y
 ·rw [q2];decide
 ·rw [q6];decide
 ·rw [q3];decide
theorem jkU {k:Nat}(h:1≤k) (h':k≤10):jE (jO [120] k)≠jE (jb4 [120] k):=by
 obtain ⟨i,rfl⟩:∃ i,k=i+1:=⟨k - 1,by omega⟩
 exact fun z=>jk0 i (by omega) z.symm
def jf3 (shared:List UInt8) (k j:Nat) (s u:Rt) (m:Nat):Prop:=
 (m=0∧k=1∧j=0∧s=J2 shared∧u=YB shared zP)∨(k=j+1∧k+j≤m+1∧Insy [120] [121] k j s u m)∨(k=j∧1≤k∧k+j≤m+1∧Insy [121] [120] j k u s m)
theorem jkd {shared:List UInt8}{k j m:Nat}{s u:Rt}(h:jf3 shared k j s u m) (hm:m≤17){text:List UInt8}(ht:text.length≤300) (bs:List UInt8) (pp:Int):
 ∃ pk bf sm SB S' U' K',Said s u (j3 (jO [120] k)) text bs pk bf sm SB S' U' pp∧yg s text k=K'∧jf3 shared K' j S' U' (m+1):=by
 rcases h with ⟨rfl,rfl,rfl,rfl,rfl⟩ | ⟨h1,h2,h3⟩ | ⟨h1,hk,h2,h3⟩
 ·obtain ⟨S',U',SB,q1,q2,_,_,_,q3⟩:=jeW shared ht rfl (j3 (jO [120] 1)) bs pp
  exact ⟨_,_,_,SB,S',U',1,q1,q2, .inr (.inl ⟨rfl,by omega,q3⟩)⟩
 ·obtain ⟨q1,q2,q3⟩:=jbJ h3 (by omega) ht (j3 (jO [120] k)) bs pp
  exact ⟨_,_,_,_,_,_,k,q1,q2, .inr (.inl ⟨h1,by omega,q3⟩)⟩
 ·obtain ⟨S',U',SB,q1,q2,_,_,_,q3⟩:=jbK h3 (by omega) ht rfl (jkU hk (by omega)) bs pp
  exact ⟨_,_,_,SB,S',U',k+1,q1,q2, .inr (.inl ⟨by omega,by omega,q3⟩)⟩
section
variable {w W W':World}{a b:Pty}{tg tp:jpp×Nat×Nat}
theorem joL (h:Duo w a b tg tp){l:Nat}{fr tt:Int}(hL:Cb w l 150 (lnC fr tt a.s)){op text:List UInt8}{B:Option Addr}{m c:Nat}(hk:a.k < 1000000) (lop:op.length=32) (hm:m≤250) (hM:∀ u,Two a.s a.g w u→Bs u B m c text):
 Calls jpk 31 #[.pointer (some ⟨l,0,none⟩), .agg (cellsOf op).toArray, .slice B m c] w fun e w'=>∃ A' n' c',e= .returned (.tuple #[.agg (wrV a.t.s a.pair fr tt op text A' n' c').toArray, .int .i64 (qW a.t.s a.pair (op++text))])∧Own w.heap.size w' A' n' c' (yH a.t.s a.pair (jn fr tt (wrC fr tt op text)) (op++text))∧Duo w' (a.sent (op++text)) b tg tp∧Two a.s a.g w w':=by
 have hl:=h.pa.src.1
 refine (jok hL h.pa.ss h.pa.src hk h.pa.gs lop hm h.gl h.gp h.pa.pr hM).mono ?_
 rintro e w' ⟨A',n',c',h1,h2,h3,h4,h5⟩
 have p1:=h.pa.pr
 have p2:=h.pa.gs
 have h6:=Pm.two h.pa h.pb h.ne h.ab h5
 exact ⟨A',n',c',h1,h2,⟨⟨h3,h4,h.pa.gs,h.pa.pr⟩,h6,h.ne,h.ab,h.ba,h5.block h.gl (by omega) (by omega),h5.block h.gp (by omega) (by omega)⟩,h5⟩
theorem jov (h:Duo w a b tg tp){l:Nat}{f' t' p n:Int}(hL:Cb w l 150 (lnC t' f' a.s)){cm pk body:List UInt8}{A:Option Addr}{m c:Nat}(hp:a.t.puts≤1000000000) (lc:cm.length=32) (lp:pk.length=32) (hb:Bs w A m c body) (hm:m≤1000000):
 Calls jpk 34 #[.pointer (some ⟨l,0,none⟩), .agg (evC f' t' cm pk p n A m c).toArray] w fun e w'=>∃ A' n' c' kp' mb',e= .returned (.tuple #[.slice A' n' c', .agg (cellsOf (uwK a.t f' t' cm pk p n body)).toArray, .int .i64 (uwE a.t f' t' cm pk p n body)])∧Own w.heap.size w' A' n' c' (uwT a.t f' t' cm pk p n body)∧Duo w' {a with kp:=kp',mb:=mb',t:=zf a.t (jn f' t' cm) pk p n body} b tg tp∧w.grownBy w' (some a.s):=by
 have hl:=h.pa.src.1
 have p1:=h.pa.pr
 have p2:=h.pa.gs
 refine (jox hL h.pa.ss hp lc lp hb hm h.gl h.gp (by omega) (by omega)).mono ?_
 rintro e w' ⟨A',n',c',kp',mb',h1,h2,h3,h4,_⟩
 have h5:=Two.of_grown (g':=a.g) h4
 have h6:=Pm.two h.pa h.pb h.ne h.ab h5
 exact ⟨A',n',c',kp',mb',h1,h2,⟨⟨h3,h.pa.src.other h4 (.inr h.pa.gs),h.pa.gs,h.pa.pr⟩,h6,h.ne,h.ab,h.ba,h5.block h.gl (by omega) (by omega),h5.block h.gp (by omega) (by omega)⟩,h4⟩
end
section
variable {s u S' U':Rt}{pr op text bs pk SB:List UInt8}{bf sm pp f t:Int}
theorem joT (q:Said s u pr (op++text) bs pk bf sm SB S' U' pp) (A:Option Addr) (n c:Nat):wrV s pr f t op text A n c=evC f t (wrC f t op text) pk bf sm A n c:=by
 unfold wrV
 rw [q.e,if_pos rfl,q.h]
 rfl
theorem joZ (lop:op.length=32) (q:Said s u pr (op++text) (jn f t (wrC f t op text)) pk bf sm SB S' U' pp):uwE ⟨u,[],pp⟩ f t (wrC f t op text) pk bf sm SB=0∧uwT ⟨u,[],pp⟩ f t (wrC f t op text) pk bf sm SB=text∧uwK ⟨u,[],pp⟩ f t (wrC f t op text) pk bf sm SB=op:=by
 have hl: ¬ (op++text).length < 32:=by rw [jpt,lop];omega
 have e1:unE (op++text)=0:=if_neg hl
 have e2:unK (op++text)=op:=by unfold unK;rw [if_neg hl];exact jqi lop
 have e3:unT (op++text)=text:=by unfold unT;rw [if_neg hl];exact List.drop_left' lop
 have e:uwE ⟨u,[],pp⟩ f t (wrC f t op text) pk bf sm SB=0:=by
  unfold uwE
  rw [q.re,if_pos rfl,q.rt,e1,if_pos rfl,e2,e3,if_pos rfl]
 refine ⟨e,?_,?_⟩
 ·unfold uwT;rw [e,if_pos rfl,q.rt,e3]
 ·unfold uwK;rw [e,if_pos rfl,q.rt,e2]
end
def LTalk (shared:List UInt8) (W:World) (l0 l1 sa ga la sb gb lb m:Nat) (tg tp:jpp×Nat×Nat):Prop:=
 (∃ (ka ma kb mb k j:Nat) (s u:Rt),Duo W ⟨sa,ka,ma,ga,la,[120],k,⟨s,[],0⟩⟩ ⟨sb,kb,mb,gb,lb,[121],j,⟨u,[],0⟩⟩ tg tp∧jf3 shared k j s u m)∧Cb W l0 150 (lnC 2 5 sa)∧Cb W l1 150 (lnC 5 2 sb)
section
variable {shared:List UInt8}{w W W':World}{l0 l1 sa ga la sb gb lb m:Nat}{tg tp:jpp×Nat×Nat}
theorem LTalk.ext (h:LTalk shared W l0 l1 sa ga la sb gb lb m tg tp) (e:Ext W W'):LTalk shared W' l0 l1 sa ga la sb gb lb m tg tp:=by
 obtain ⟨⟨ka,ma,kb,mb,k,j,s,u,h1,h2⟩,k0,k1⟩:=h
 exact ⟨⟨ka,ma,kb,mb,k,j,s,u,h1.ext e,h2⟩,k0.ext e,k1.ext e⟩
theorem joU {k j:Nat}{s u:Rt}(h:jf3 shared k j s u m):k≤m+1∧j≤m+1:=by
 rcases h with ⟨rfl,rfl,rfl,_,_⟩ | ⟨h1,h2,_⟩ | ⟨h1,_,h2,_⟩ <;> omega
def jot (B0 lj sj:Nat) (f t:Int) (op text:List UInt8) (fin:World→Prop) (w':World) (e:Ending):Prop:=
 ∃ (pk:List UInt8) (bf sm:Int) (A':Option Addr) (n' c':Nat) (SB:List UInt8),e= .returned (.tuple #[.agg (evC f t (wrC f t op text) pk bf sm A' n' c').toArray, .int .i64 0])∧pk.length=32∧SB.length=text.length+64∧Own B0 w' A' n' c' SB∧
   ∀ W,Ext w' W→Calls jpk 34 #[.pointer (some ⟨lj,0,none⟩), .agg (evC f t (wrC f t op text) pk bf sm A' n' c').toArray] W fun e w''=>∃ A2 n2 c2,e= .returned (.tuple #[.slice A2 n2 c2, .agg (cellsOf op).toArray, .int .i64 0])∧Own W.heap.size w'' A2 n2 c2 text∧fin w''∧W.grownBy w'' (some sj)
theorem joJ {w':World}{a b:Pty}{u S' U':Rt}{k' B0 lj:Nat}{op text pk SB:List UInt8}{bf sm f t:Int}{A':Option Addr}{n' c':Nat}{pr:List UInt8}{s:Rt}
 (D:Duo w' {a with k:=k',t:=⟨S',[],0⟩} b tg tp) (hb:b.t=⟨u,[],0⟩) (hlj:Cb w' lj 150 (lnC t f b.s)) (lop:op.length=32) (q:Said s u pr (op++text) (jn f t (wrC f t op text)) pk bf sm SB S' U' 0) (O:Own B0 w' A' n' c' SB) (ht:text.length≤250)
 {fin:World→Prop} (hf:∀ w'' kp mb,Duo w'' {a with k:=k',t:=⟨S',[],0⟩} {b with kp:=kp,mb:=mb,t:=⟨U',[],0⟩} tg tp→(∀ i (C:List Value),Cb w' i 150 C→Cb w'' i 150 C)→fin w''):
 jot B0 lj b.s f t op text fin w' (.returned (.tuple #[.agg (wrV s pr f t op text A' n' c').toArray, .int .i64 0])):=by
 have hl:=O.len
 have ql:=q.l
 rw [jpt,lop] at ql
 refine ⟨pk,bf,sm,A',n',c',SB,by rw [joT q],q.lp,by omega,O,fun W e=> ?_⟩
 obtain ⟨u1,u2,u3⟩:=joZ lop q
 have hd:=(D.ext e).swap
 have R:=jov hd (hlj.ext e) (p:=bf) (n:=sm) (cm:=wrC f t op text) (pk:=pk) (body:=SB) (A:=A') (m:=n') (c:=c') (by rw [hb];exact (by decide:(0:Int)≤1000000000)) (joj _ _ _ _) q.lp (O.bs.ext e) (by omega)
 rw [hb,u1,u2,u3,q.rs] at R
 refine R.mono ?_
 rintro e' w'' ⟨A2,n2,c2,kp,mb,h1,h2,h3,h4⟩
 refine ⟨A2,n2,c2,h1,h2,hf _ kp mb h3.swap fun i C hi=> ?_,h4⟩
 have hi':=hi.ext e
 exact (h4.block _ hi'.lt (fun z=>zt hd.pa.ss.sq hi' (by decide) (jpq z).symm)).trans hi'
theorem jo1 (h:LTalk shared W l0 l1 sa ga la sb gb lb m tg tp) (hm:m≤17){op text:List UInt8}(lop:op.length=32) (ht:text.length≤250){B:Option Addr}{mm c:Nat}(hM:∀ u,Two sa ga W u→Bs u B mm c text):
 Calls jpk 31 #[.pointer (some ⟨l0,0,none⟩), .agg (cellsOf op).toArray, .slice B mm c] W fun e w'=>jot W.heap.size l1 sb 2 5 op text (fun x=>LTalk shared x l0 l1 sa ga la sb gb lb (m+1) tg tp) w' e∧Two sa ga W w':=by
 obtain ⟨⟨ka,ma,kb,mb,k,j,s,u,D,C⟩,k0,k1⟩:=h
 have kj:=joU C
 have lB:=(hM W (Two.refl _ _ _)).len
 obtain ⟨pk,bf,sm,SB,S',U',K',q,qk,C'⟩:=jkd (text:=op++text) C hm (by rw [jpt,lop];omega) (jn 2 5 (wrC 2 5 op text)) 0
 have R:=joL D (fr:=2) (tt:=5) (op:=op) (text:=text) k0 (by show k < 1000000;omega) lop (by omega) hM
 have e1:(Pty.sent ⟨sa,ka,ma,ga,la,[120],k,⟨s,[],0⟩⟩ (op++text))=⟨sa,ka,ma,ga,la,[120],K',⟨S',[],0⟩⟩:=by
  unfold Pty.sent
  dsimp only
  rw [qk,q.s]
 have e2:qW s (Pty.pair ⟨sa,ka,ma,ga,la,[120],k,⟨s,[],0⟩⟩) (op++text)=0:=q.e
 have e3:yH s (Pty.pair ⟨sa,ka,ma,ga,la,[120],k,⟨s,[],0⟩⟩) (jn 2 5 (wrC 2 5 op text)) (op++text)=SB:=q.b
 rw [e1] at R
 dsimp only at R
 rw [e2,e3] at R
 refine R.mono ?_
 rintro e w' ⟨A',n',c',rfl,O,D',t⟩
 have hL:∀ i (C:List Value),Cb W i 150 C→Cb w' i 150 C:=fun i C hi=>by
  obtain ⟨L',hL'⟩:=D.pa.src.cb
  exact t.block hi (fun z=>zt D.pa.ss.sq hi (by decide) z.symm) (fun z=>zt hL' hi (by decide) z.symm)
 exact ⟨joJ (a:=⟨sa,ka,ma,ga,la,[120],k,⟨s,[],0⟩⟩) (b:=⟨sb,kb,mb,gb,lb,[121],j,⟨u,[],0⟩⟩) D' rfl (hL _ _ k1) lop q O ht (fun w'' kp mb' d kk=>⟨⟨ka,ma,kp,mb',K',j,S',U',d,C'⟩,kk _ _ (hL _ _ k0),kk _ _ (hL _ _ k1)⟩),t⟩
structure LLay (w W:World) (l0 l1 sa ga la sb gb lb:Nat):Prop where
 a:(w.heap.size≤sa∧sa < W.heap.size)∧(w.heap.size≤ga∧ga < W.heap.size)
 b:(w.heap.size≤sb∧sb < W.heap.size)∧(w.heap.size≤gb∧gb < W.heap.size)
 l:(w.heap.size≤l0∧l0 < W.heap.size)∧(w.heap.size≤l1∧l1 < W.heap.size)
theorem joK (lr:shared.length=32) (hG:Gl w tg) (hP:Gp w tp):
 Calls jpk 29 #[.agg (cellsOf shared).toArray] w fun e w'=>∃ l0 l1 sa ga la sb gb lb,e= .returned (.agg #[.pointer (some ⟨l0,0,none⟩), .pointer (some ⟨l1,0,none⟩)])∧LTalk shared w' l0 l1 sa ga la sb gb lb 0 tg tp∧Ext w w'∧LLay w w' l0 l1 sa ga la sb gb lb:=by
 refine (joz lr hG hP).mono ?_
 rintro e w' ⟨l0,l1,sa,ka,ma,ga,la,sb,kb,mb,gb,lb,rfl,D,k0,k1,x,q1,q2,q3,q4⟩
 have a1:=D.pa.ss.sl
 have a2:=D.pa.gs
 have a3:=D.pa.src.1
 have b1:=D.pb.ss.sl
 have b2:=D.pb.gs
 have b3:=D.pb.src.1
 dsimp only [jh1,jjk] at a1 a2 a3 b1 b2 b3
 have c0:=k0.lt
 have c1:=k1.lt
 exact ⟨l0,l1,sa,ga,la,sb,gb,lb,rfl,⟨⟨ka,ma,kb,mb,1,0,_,_,D, .inl ⟨rfl,rfl,rfl,rfl,rfl⟩⟩,k0,k1⟩,x,⟨⟨⟨by omega,by omega⟩,by omega,by omega⟩,⟨⟨by omega,by omega⟩,by omega,by omega⟩,⟨⟨by omega,by omega⟩,by omega,by omega⟩⟩⟩
end
theorem joP {w:World}{f t:Int}:Calls jpk 37 #[.pointer none, .int .i64 f, .int .i64 t] w fun e w'=>e= .returned (.tuple #[.pointer none, .int .i64 1])∧Ext w w':=by
 go_enter Tryz.func37,Tryz.ntmps37
 go_wp2_with fail
 go_ret2
 exact ⟨rfl,jnQ _⟩
def jol:List UInt8:=9::jqa 31 0
theorem jom:Tryz.prog.built 23 [(0, .int .u8 9)]=some (cellsOf jol).toArray:=by kernel_rfl
def lnA (l0 l1:Nat):List Value:= [.pointer (some ⟨l0,0,none⟩), .pointer (some ⟨l1,0,none⟩)]
theorem joW (l0 l1:Nat):(lnA l0 l1).toArray.all (·.oneCell')=true:=qC (L:=lnA l0 l1) (fun v hv=>by
 rcases jpr.1 hv with rfl | hv
 ·rfl
 ·rcases jpr.1 hv with rfl | hv
  ·rfl
  ·cases hv)
def Y8:List UInt8:= [104,101,108,108,111]
theorem job {w:World}{tg tp:jpp×Nat×Nat}(hG:Gl w tg) (hP:Gp w tp):
 Calls jpk 28 #[] w fun e w'=>e= .returned (.bool true)∧Ext w w':=by
 have TW:=Hj (joK (w:=w) (shared:=Qe) rfl hG hP)
 have bk:=Hj jde
 have bn:=Hj jom
 have LA:Hid (∀ (W:World) (l0 l1 sa ga la sb gb lb b:Nat),LTalk Qe W l0 l1 sa ga la sb gb lb 0 tg tp→Bs W (some ⟨b,0,none⟩) 5 5 Y8→(b≠sa∧b≠ga)→Calls jpk 31 #[.pointer (some ⟨l0,0,none⟩), .agg (cellsOf jol).toArray, .slice (some ⟨b,0,none⟩) 5 5] W fun e w'=>jot W.heap.size l1 sb 2 5 jol Y8 (fun x=>LTalk Qe x l0 l1 sa ga la sb gb lb 1 tg tp) w' e∧Two sa ga W w'):=fun W l0 l1 sa ga la sb gb lb b h hb n=>jo1 h (by omega) rfl (by decide) (fun u x=>hb.two13 x n.1 n.2)
 have L_n:jol.length=32:=rfl
 obtain ⟨nine,hnine⟩:∃ x,x=jol:=⟨_,rfl⟩
 rw [←hnine] at bn LA L_n
 clear hnine
 have S_n:(cellsOf nine).toArray.size=32:=by simp [ja,L_n]
 have O_n:=ji nine
 generalize (cellsOf Qe).toArray=K1 at *
 generalize Qe=sh at *
 have halk:=j2
 have S_Z:=j7
 generalize jr=Z at *
 have hal2:=jn6
 obtain ⟨T0,hT0⟩:∃ x,x=jjJ:=⟨_,rfl⟩
 rw [←hT0] at hal2
 have S_T0:T0.toArray.size=2:=by rw [hT0];rfl
 clear hT0
 have hale:=jn3
 have L_z:=joH
 generalize evZ=ZE at *
 have S_ZE:ZE.toArray.size=69:=by rw [jqh,L_z]
 have CV:Hid (∀ (W:World) A n c (ys:List UInt8),Bs W A n c ys→(convert 33 9 (.slice A n c)).run jpk W= .ok (.string (vR ys)) W):=fun W A n c ys h=>jfz h
 have NN:Hid (∀ W:World,Calls jpk 37 #[.pointer none, .int .i64 1, .int .i64 2] W fun e w'=>e= .returned (.tuple #[.pointer none, .int .i64 1])∧Ext W w'):=fun W=>joP
 clear hG hP
 go_enter Tryz.func28,Tryz.ntmps28
 go_wp2_with (first | ((with_reducible refine jm (o:=⟨some 9, .build 23 _,_,_,_,_⟩) ?_ 23 _ rfl K1 ?_ ?_);(·rfl);(·simp only [jqr,jqn,jqs];exact bk.out);go_frame))
 refine TW.out.mono ?_
 rintro e w1 ⟨l0,l1,sa,ga,la,sb,gb,lb,rfl,D1,x1,ly⟩
 have OO:=joW l0 l1
 have ⟨⟨⟨a1,a2⟩,a3,a4⟩,⟨⟨b1,b2⟩,b3,b4⟩,_⟩:=ly
 have Y:Hid (Cb ((w1.alloc (.cells T0.toArray 79)).setRow w1.heap.size (lnA l0 l1).toArray) w1.heap.size 79 (lnA l0 l1)∧Ext w1 ((w1.alloc (.cells T0.toArray 79)).setRow w1.heap.size (lnA l0 l1).toArray)):=⟨Cb.set (Cb.new _ _ _),Ext.newRow _ _ _⟩
 replace D1:=Hj D1
 replace x1:=Hj x1
 clear TW bk ly
 go_upto_region 2 with (refine ws_ rfl 79 rfl w1.heap.size (lnA l0 l1).toArray rfl rfl (jqd _ _) rfl (by rw [S_T0];rfl) OO ?_;simp only [jpE])
 refine jg (fun W=>Cb W w1.heap.size 79 (lnA l0 l1)∧Ext w1 W) Y.out ?_
 obtain ⟨r1,hr1⟩:∃ x,x=w1.heap.size:=⟨_,rfl⟩
 rw [←hr1]
 have wr1:w1.heap.size≤r1:=jq1 hr1.symm
 clear Y
 replace hr1:=Hj hr1
 rintro w2 ⟨k1,x2⟩
 have D2:=Hj (D1.out.ext x2)
 have X2:=Hj (x1.out.trans x2)
 have c0:=k1.cell (j:=0) (v:= .pointer (some ⟨l0,0,none⟩)) rfl
 have c1:=k1.cell (j:=1) (v:= .pointer (some ⟨l1,0,none⟩)) rfl
 have r1l:=k1.lt
 replace k1:=Hj k1
 have hcv:=Qn
 have v2:Hid (Bs (w2.alloc (jqL #[.int .u8 104, .int .u8 101, .int .u8 108, .int .u8 108, .int .u8 111] 5 (5,6))) (some ⟨w2.heap.size,0,none⟩) 5 5 Y8):=Bs.lit13 w2 5 (5,6) [104,101,108,108,111] _ rfl 5 rfl (by omega)
 have x5:Hid (Ext w2 (w2.alloc (jqL #[.int .u8 104, .int .u8 101, .int .u8 108, .int .u8 108, .int .u8 111] 5 (5,6)))):=(jnQ w2).alloc _
 have S4:=Hj (LA.out _ _ _ _ _ _ _ _ _ _ (D2.out.ext x5.out) v2.out ⟨by omega,by omega⟩)
 clear D1 x1 x2 LA D2
 go_wp2_with (first | ((with_reducible refine jm (o:=⟨some 22, .build 23 _,_,_,_,_⟩) ?_ 23 _ rfl (cellsOf nine).toArray ?_ ?_);(·rfl);(·simp only [jqr,jqn,jqs];exact bn.out);go_frame))
 refine S4.out.mono ?_
 rintro e w3 ⟨⟨pk,bf,sm,A6,n6,c6,SB,rfl,lpk,lSB,o6,UW⟩,t3⟩
 have k3:Cb w3 r1 79 (lnA l0 l1):=t3.block (k1.out.ext x5.out) (by omega) (by omega)
 have X3:Ext w w3:=Two.ext (X2.out.trans x5.out) t3 (by omega) (by omega)
 have s13:=jpN x5.out.size t3.2.2.2.1
 have L_E:=Z2 (joj 2 5 nine Y8) lpk 2 5 bf sm A6 n6 c6
 have O_E:(evC 2 5 (wrC 2 5 nine Y8) pk bf sm A6 n6 c6).toArray.all (·.oneCell')=true:=qC fun v hv=>joF v hv
 generalize evC 2 5 (wrC 2 5 nine Y8) pk bf sm A6 n6 c6=EV at *
 have S_E:EV.toArray.size=69:=by rw [jqh,L_E]
 have Y:Hid (Cb ((w3.alloc (.cells ZE.toArray 89)).setRow w3.heap.size EV.toArray) w3.heap.size 89 EV∧Ext w3 ((w3.alloc (.cells ZE.toArray 89)).setRow w3.heap.size EV.toArray)):=⟨Cb.set (Cb.new _ _ _),Ext.newRow _ _ _⟩
 replace UW:=Hj UW
 replace k3:=Hj k3
 replace X3:=Hj X3
 clear S4 k1 X2 x5 t3 c0 c1 v2 o6
 go_upto_region 5 with (refine ws_ rfl 89 rfl w3.heap.size EV.toArray rfl rfl (jqd _ _) (by rw [S_E];rfl) (by rw [S_E,S_ZE]) O_E ?_;simp only [jpE])
 refine jg (fun W=>Cb W w3.heap.size 89 EV∧Ext w3 W) Y.out ?_
 generalize w3.heap.size=r3 at *
 clear Y
 rintro w4 ⟨k4,x4⟩
 have c1:=(k3.out.ext x4).cell (j:=1) (v:= .pointer (some ⟨l1,0,none⟩)) rfl
 have U4:=Hj (UW.out w4 x4)
 have X4:=Hj (X3.out.trans x4)
 clear UW x4 X3
 go_wp2_with (first | ((with_reducible refine js (o:=⟨some 31,_,_,_,_,_⟩) ?_ 89 _ rfl r3 ?_ 89 EV.toArray (0,0) _ ?_ Tryz.underlying89 ?_ ?_ ?_);(·rfl);(·rfl);(·exact k4);(·rfl);(·rw [S_E];rfl);go_frame))
 refine U4.out.mono ?_
 rintro e w5 ⟨A9,n9,d9,rfl,o9,D5,g5⟩
 have X5:Hid (Ext w w5):=JQ X4.out g5 (by omega)
 have b9:=Hj o9.bs
 have kz:(w5.alloc (.cells Z 23)).heap[w5.heap.size]? =some (.cells Z 23 (0,0)):=jqd _ _
 have Y:Hid (Ky ((w5.alloc (.cells Z 23)).setRow w5.heap.size (cellsOf nine).toArray) w5.heap.size nine∧Ext w5 ((w5.alloc (.cells Z 23)).setRow w5.heap.size (cellsOf nine).toArray)):=⟨Ky.new _ L_n,Ext.newRow _ _ _⟩
 clear U4 X4 o9 D5 g5 k4 c1 k3
 go_upto_region 6 with (refine ws_ rfl 23 rfl w5.heap.size (cellsOf nine).toArray rfl rfl kz (by rw [S_n];rfl) (by rw [S_n];exact S_Z) O_n ?_;simp only [jpE])
 refine jg (fun W=>Ky W w5.heap.size nine∧Ext w5 W) Y.out ?_
 generalize w5.heap.size=r5 at *
 clear Y kz
 rintro w6 ⟨k6,x6⟩
 have N6:=Hj (NN.out w6)
 replace b9:=Hj (b9.out.ext x6)
 have X6:=Hj (X5.out.trans x6)
 replace k6:=Hj k6
 clear NN X5 x6
 go_wp2_with fail
 refine N6.out.mono ?_
 rintro e w7 ⟨rfl,x7⟩
 have k7:=(k6.out.ext x7).1
 have F:=Hj (X6.out.trans x7)
 have cv:=CV.out _ _ _ _ _ (b9.out.ext x7)
 have u7:((vR Y8).toList== [104,101,108,108,111])=true:=by simp [vR,Y8]
 generalize vR Y8=HS at *
 clear N6 X6 k6 b9 x7 CV
 go_wp2_with (first
  | ((with_reducible refine js (o:=⟨some 52,_,_,_,_,_⟩) ?_ 23 _ rfl r5 ?_ 23 (cellsOf nine).toArray (0,0) _ ?_ jqq ?_ ?_ ?_);(·rfl);(·rfl);(·exact k7);(·rfl);(·rw [S_n];rfl);go_frame)
  | ((with_reducible refine vQ (o:=⟨some 53, .build 23 _,_,_,_,_⟩) (v:= .agg (cellsOf nine).toArray) ?_ ?_ ?_);(·rfl);(·refine qe rfl ?_;simp only [jqr,jqn,jqs];exact bn.out);go_frame)
  | ((with_reducible refine jn4 (o:=⟨some 54,_,_,_,_,_⟩) ?_ _ _ _ rfl nine nine true ?_ ?_ ?_ L_n L_n ?_);(·rfl);(·exact (by simp));(·rfl);(·rfl);go_frame))
 all_goals (go_ret;exact ⟨rfl,F.out⟩)
end
section
open Go.ChangeShapes Go.WideShapes Go.ChangeAt Go.RowKit Go.Deep
def jhC:List Int:= [1779033703,3144134277,1013904242,2773480762,1359893119,2600822924,528734635,1541459225]
theorem jhv:Tryz.prog.globalNamed "palfrey/blake.initial" =some 0:=by kernel_rfl
theorem jep:(Tryz.prog.globals[0]?).map (·.type)=some 218:=by kernel_rfl
theorem jgg {W:World}(h:Lib.TabIs jpk W "palfrey/blake.initial" .u32 jhC):∃ tg,Gl W tg:=by
 unfold Lib.TabIs World.var? at h
 rw [jhv] at h
 simp only [Option.bind_some] at h
 cases hh:W.heap[0]? with
 | none=>rw [hh] at h;cases h
 | some o=>
   rw [hh] at h
   cases o with
   | cells cs t fr=>
     simp only [Option.some.injEq] at h
     subst h
     exact ⟨(t,fr),hh⟩
   | _=>cases h
theorem jer {W:World}{rest:List (String×DataW Unit)}(h:laidMet jpk (("palfrey/blake.initial",Lib.tabData .u32 jhC)::rest) W):∃ tg,Gl W tg:=
 jgg (Lib.tabIs_of_head (rest:=rest) jhv jep Tryz.underlying218 Tryz.underlying133 (by kernel_rfl) (by kernel_rfl) h)
def jeR:List Int:= [4294967277,4294967295,4294967295,4294967295,4294967295,4294967295,4294967295,2147483647]
theorem jhw:Tryz.prog.globalNamed "palfrey/field.prime" =some 1:=by kernel_rfl
theorem jeq:(Tryz.prog.globals[1]?).map (·.type)=some 218:=by kernel_rfl
theorem jgh {W:World}(h:Lib.TabIs jpk W "palfrey/field.prime" .u32 jeR):∃ tg,Gp W tg:=by
 unfold Lib.TabIs World.var? at h
 rw [jhw] at h
 simp only [Option.bind_some] at h
 cases hh:W.heap[1]? with
 | none=>rw [hh] at h;cases h
 | some o=>
   rw [hh] at h
   cases o with
   | cells cs t fr=>
     simp only [Option.some.injEq] at h
     subst h
     refine ⟨(t,fr),?_⟩
     unfold Gp
     rw [←jgy]
     exact hh
   | _=>cases h
theorem jes {W:World}{rest:List (String×DataW Unit)}(h:laidMet jpk (("palfrey/field.prime",Lib.tabData .u32 jeR)::rest) W):∃ tg,Gp W tg:=
 jgh (Lib.tabIs_of_head (rest:=rest) jhw jeq Tryz.underlying218 Tryz.underlying133 (by kernel_rfl) (by kernel_rfl) h)
theorem jck {P:jpo}{W:World}{x:String×DataW Unit}{rest:List (String×DataW Unit)}(h:laidMet P (x::rest) W):laidMet P rest W:=by
 obtain ⟨n,d⟩:=x
 obtain ⟨ps,⟨g,t,cs,fuel,p,q,_,_,_,_,hr,rfl⟩,hnd,hall⟩:=h
 exact ⟨q,hr,(List.nodup_append.1 hnd).2.1,fun b off hm=>hall b off (List.mem_append_right _ hm)⟩
theorem jb0 {W:World}{rest:List (String×DataW Unit)}(h:laidMet jpk (("palfrey/field.prime",Lib.tabData .u32 jeR)::("palfrey/blake.initial",Lib.tabData .u32 jhC)::rest) W):(∃ tp,Gp W tp)∧∃ tg,Gl W tg:=
 ⟨jes h,jer (jck h)⟩
end
end Go.Proofs.YtakpgbaijkhpmaaGreatDoor
