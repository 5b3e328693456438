import Derived.Test.YtmnohmhhmaeljaaDoorPkJ
import Derived.Test.YtmnohmhhmaeljaaDoorStV
import Derived.Test.YtmnohmhhmaeljaaDoorBase
import Derived.Test.YtmnohmhhmaeljaaDoorMid
import Derived.Test.YtmnohmhhmaeljaaDoorCells
import Derived.Test.YtmnohmhhmaeljaaDoorFillS
import Derived.Test.YtmnohmhhmaeljaaDoorPkL
import Derived.Test.YtmnohmhhmaeljaaDoorPkK
import Derived.Test.YtmnohmhhmaeljaaDoorLowM
import Derived.Maps.RangeWalk
import Derived.Maps.Ext
section
/-
  stamp.Bytes.
-/
namespace Go.Proofs.YtmnohmhhmaeljaaDoor
open Go.ChangeShapes Go.WideShapes Go.ChangeAt Go.RowKit Go.Deep
set_option maxRecDepth 100000

theorem bytes_facts {s : Sm} : (s.valid = false → bytesS s = [] ∧ bytesE s = 1) ∧ (s.valid = true → bytesS s = hiB s.ep.toNat 4 ++ toldL s.f.toNat s.t.toNat s.tm.toNat s.cm ++ s.tg ∧ bytesE s = 0) := by
  refine ⟨fun h => ?_, fun h => ?_⟩
  · unfold bytesS bytesE; rw [h]; exact ⟨rfl, rfl⟩
  · unfold bytesS bytesE; rw [h]; exact ⟨rfl, rfl⟩
set_option maxHeartbeats 8000000 in
theorem bytes16_calls {w : World} {s : Sm} (ok : s.ok) :
    Calls Tryd.prog 43 #[.agg s.C.toArray] w fun e w' => ∃ A n c, e = .returned (.tuple #[.slice A n c, .int .i64 (bytesE s)]) ∧ Own w.heap.size w' A n c (bytesS s) ∧ Ext w w' := by
  have VA : Hid (∀ (W : World), Calls Tryd.prog 84 #[.agg s.C.toArray] W fun e w' => e = .returned (.bool s.valid) ∧ Ext W w') := fun W => valid16_calls
  obtain ⟨R0, R1⟩ := bytes_facts (s := s)
  replace R0 := Lib.hid R0
  replace R1 := Lib.hid R1
  have L_s := Sm.C_len ok
  have s0 : Hid (s.C[0]? = some (.int .i64 s.ep)) := rfl
  have SP := Lib.hid (fun _ : Unit => st_parts (ep := s.ep) (f := s.f) (t := s.t) (tm := s.tm) (tg := s.tg) ok.1)
  have S_s : s.C.toArray.size = 68 := by rw [List.size_toArray, L_s]
  obtain ⟨r, hr⟩ : ∃ r, r = w.heap.size := ⟨_, rfl⟩
  have B0 : Hid (Cb (w.alloc (.cells s.C.toArray 26)) r 26 s.C ∧ Ext w (w.alloc (.cells s.C.toArray 26))) := by rw [hr]; exact ⟨Cb.new _ _ _, (Ext.refl w).alloc _⟩
  obtain ⟨SC, hSC⟩ : ∃ SC, SC = s.C := ⟨_, rfl⟩
  rw [← hSC] at VA L_s s0 S_s B0 ⊢
  replace hSC := Lib.hid hSC
  obtain ⟨RE, hRE⟩ : ∃ r, r = bytesE s := ⟨_, rfl⟩
  obtain ⟨RS, hRS⟩ : ∃ r, r = bytesS s := ⟨_, rfl⟩
  rw [← hRE, ← hRS] at R0 R1 ⊢
  clear hRE hRS
  go_enter Tryd.func43, Tryd.ntmps43
  go_upto_region 1 with fail
  refine wp_gen (fun W => Cb W r 26 SC ∧ Ext w W) B0.out ?_
  rw [← hr]
  have wr : w.heap.size ≤ r := Nat.le_of_eq hr.symm
  clear B0
  replace hr := Lib.hid hr
  rintro w0 ⟨k0, x0⟩
  replace k0 := Lib.hid k0
  replace x0 := Lib.hid x0
  go_wp2_with (first | ((with_reducible refine wpList_load_rowW (o := ⟨some 5, _, _, _, _, _⟩) ?_ 26 _ rfl r ?_ 26 SC.toArray (0, 0) _ ?_ Tryd.underlying26 ?_ ?_ ?_); (· rfl); (· rfl); (· exact k0.out); (· rfl); (· rw [S_s]; rfl); go_frame))
  refine (VA.out _).mono ?_
  rintro e w1 ⟨rfl, x1⟩
  have k1 := Lib.hid (k0.out.ext x1)
  replace x1 := Lib.hid (x0.out.trans x1)
  clear k0 VA x0
  rcases h1 : s.valid with _ | _
  · have z1 := Lib.hid (R0.out h1)
    clear R0 R1
    go_wp2_with fail
    go_ret2
    exact ⟨none, 0, 0, by rw [z1.out.2]; rfl, by rw [z1.out.1]; exact Own.nil _ _, x1.out⟩
  replace R1 := R1.out h1
  obtain ⟨ep, fn, tn, tm, hs, hep, hf7, ht7, htm⟩ := Sm.nat h1
  obtain ⟨lc, lg⟩ := ok
  clear R0 h1
  generalize s.cm = cm at *
  generalize s.tg = tgv at *
  subst hs
  have TO : Hid (∀ W : World, Calls Tryd.prog 88 #[.agg SC.toArray] W (RetOwn (toldL fn tn tm cm) W)) := by
    refine Lib.hid fun W => ?_
    rw [hSC.out]
    exact told_calls lc hf7 ht7 htm
  have SP1 : Hid (SC = ([.int .i64 (ep : Int), .int .i64 (fn : Int), .int .i64 (tn : Int), .int .i64 (tm : Int)] ++ cellsOf cm) ++ (cellsOf tgv ++ []) ∧ ([Value.int .i64 (ep : Int), .int .i64 (fn : Int), .int .i64 (tn : Int), .int .i64 (tm : Int)] ++ cellsOf cm).length = 36) := by
    rw [hSC.out]; exact Lib.hid (SP.out ()).2
  clear SP hSC
  simp only [Int.toNat_natCast] at R1
  replace R1 := Lib.hid R1
  have H4 : Hid (∀ (W : World), Calls Tryd.prog 45 #[.int .u64 (ep : Int), .int .i64 4] W (RetOwn (hiB ep 4) W)) := fun W => highO_calls (by omega) (by omega) (by omega) (by omega) rfl
  have u1 : IntKind.u64.wrap (ep : Int) = (ep : Int) := IntWalk.u64_in _ (by omega)
  have l4 := hiB_len ep 4
  have lt := toldL_len (f := fn) (t := tn) (tm := tm) lc
  generalize toldL fn tn tm cm = TL at *
  generalize hiB ep 4 = b4 at *
  have g0 := k1.out.cell s0.out
  have z1 : r + 1 ≤ w1.heap.size := k1.out.lt
  clear s0 hf7 ht7 htm hep L_s
  go_wp2_with fail
  refine (H4.out _).mono ?_
  rintro e w2 ⟨A2, n2, m2, rfl, o2, e2⟩
  obtain rfl : n2 = 4 := by rw [← o2.len, l4]
  replace o2 := Lib.hid (o2.mono z1)
  have k2 := Lib.hid (k1.out.ext e2)
  have x2 := Lib.hid (x1.out.trans e2)
  clear g0 k1 x1 e2 H4 z1
  go_upto_region 4 with fail
  refine wp_gen (fun W => Own (r + 1) W A2 4 m2 b4 ∧ Cb W r 26 SC ∧ Ext w W) ⟨o2.out, k2.out, x2.out⟩ ?_
  clear o2 k2 x2
  rintro w3 ⟨o3, k3, x3⟩
  replace k3 := Lib.hid k3
  go_wp2_with (first | ((with_reducible refine wpList_load_rowW (o := ⟨some 13, _, _, _, _, _⟩) ?_ 26 _ rfl r ?_ 26 SC.toArray (0, 0) _ ?_ Tryd.underlying26 ?_ ?_ ?_); (· rfl); (· rfl); (· exact k3.out); (· rfl); (· rw [S_s]; rfl); go_frame))
  refine (TO.out _).mono ?_
  rintro e w4 ⟨A4, n4, m4, rfl, o4, e4⟩
  obtain rfl : n4 = 38 := by rw [← o4.len, lt]
  have o5 := Lib.hid (o3.ext e4)
  replace o4 := Lib.hid o4.bs
  have k4 := Lib.hid (k3.out.ext e4)
  have x4 := Lib.hid (x3.trans e4)
  have z4 : r + 1 ≤ w4.heap.size := k4.out.lt
  clear o3 k3 x3 e4 TO
  go_upto_region 5 with (at_builtin; (with_reducible refine wpList_append_bs rfl (B := r + 1) (s := .tmp 12) (x := .tmp 14) rfl rfl rfl o5.out o4.out (by omega) z4 ?_); intro A6 m6 w6 o6 g6 d6; replace o6 := Lib.hid o6; clear g6; replace d6 := Lib.hid d6; go_frame)
  refine wp_gen (fun W => Own (r + 1) W A6 (4 + 38) m6 (b4 ++ TL) ∧ Cb W r 26 SC ∧ Ext w W) ⟨o6.out, k4.out.kept d6.out (by omega), Below.trans x4.out (d6.out.mono (by omega))⟩ ?_
  clear o6 d6 o4 o5 k4 x4 z4
  rintro w7 ⟨o7, k7, x7⟩
  have b7 := Lib.hid (k7.bs SP1.out.1 SP1.out.2 lg (by omega))
  have z7 : r + 1 ≤ w7.heap.size := k7.lt
  replace o7 := Lib.hid o7
  replace x7 := Lib.hid x7
  clear k7
  go_wp2_with (at_builtin; (with_reducible refine wpList_append_bs rfl (B := r + 1) (s := .tmp 16) (x := .tmp 18) rfl rfl rfl o7.out b7.out (by omega) z7 ?_); intro A8 m8 w8 o8 g8 d8; replace o8 := Lib.hid o8; clear g8; replace d8 := Lib.hid d8; go_frame)
  go_ret2
  exact ⟨A8, 4 + 38 + 32, m8, by rw [R1.out.2]; rfl, by rw [R1.out.1]; exact o8.out.mono (by omega), Below.trans x7.out (d8.out.mono (by omega))⟩
end Go.Proofs.YtmnohmhhmaeljaaDoor
end

section
/-
  report.Bytes.
-/
namespace Go.Proofs.YtmnohmhhmaeljaaDoor
open Go.ChangeShapes Go.WideShapes Go.ChangeAt Go.RowKit Go.Deep
set_option maxRecDepth 100000

theorem rpC_mid (id whose : Int) (A : Option Addr) (n c : Nat) (op : List UInt8) (st : List Value) : rpC id whose A n c op st = ([.int .i64 id, .int .i64 whose, .slice A n c] ++ cellsOf op) ++ (st ++ []) := by simp [rpC]
theorem rp_pre {id whose : Int} {A : Option Addr} {n c : Nat} {op : List UInt8} (lo : op.length = 32) : ([Value.int .i64 id, .int .i64 whose, .slice A n c] ++ cellsOf op).length = 35 := by simp [cellsOf_len, lo]
theorem bytesRp_facts {r : Rm} : (r.right = false → bytesRp r = [] ∧ bytesRpE r = 1) ∧ (r.right = true → bytesRp r = joinL r.rows ∧ bytesRpE r = 0) := by
  refine ⟨fun h => ?_, fun h => ?_⟩
  · unfold bytesRp bytesRpE; rw [h]; exact ⟨rfl, rfl⟩
  · unfold bytesRp bytesRpE; rw [h]; exact ⟨rfl, rfl⟩
theorem rows_len {r : Rm} (ok : r.ok) (h : r.right = true) : (joinL r.rows).length ≤ 100000000 := by
  obtain ⟨hb, hv⟩ := right_parts h
  obtain ⟨_, _, ht⟩ := besideB_iff.1 hb
  have l5 := bytesS_len ok.2 hv
  simp [Rm.rows, joinL, row4_len, hiB_len, ok.1, l5]
  omega
set_option maxHeartbeats 8000000 in
theorem bytes17_calls {w : World} {r : Rm} {A : Option Addr} {c : Nat} (ok : r.ok) (hb : Bs w A r.txt.length c r.txt) (hn : r.txt.length ≤ 1000000) :
    Calls Tryd.prog 15 #[.agg (rpC r.id r.whose A r.txt.length c r.op r.st.C).toArray] w (RetBsE (bytesRp r) (bytesRpE r) w) := by
  obtain ⟨F0, F1⟩ := bytesRp_facts (r := r)
  have JL := rows_len ok
  obtain ⟨id, whose, txt, op, s⟩ := r
  obtain ⟨lo, oks⟩ := ok
  dsimp only at *
  have BY : Hid (∀ (W : World), Calls Tryd.prog 43 #[.agg s.C.toArray] W fun e w' => ∃ A n c, e = .returned (.tuple #[.slice A n c, .int .i64 (bytesE s)]) ∧ Own W.heap.size w' A n c (bytesS s) ∧ Ext W w') := fun W => bytes16_calls oks
  obtain ⟨BS0, BS1⟩ := bytes_facts (s := s)
  generalize hn' : txt.length = n at *
  have VB : Hid (∀ (W : World), Calls Tryd.prog 44 #[.agg (rpC id whose A n c op s.C).toArray] W fun e w' => e = .returned (.bool (besideB id whose n)) ∧ Ext W w') := fun W => beside17_calls
  have OB : Hid (∀ (W : World), Calls Tryd.prog 47 #[.int .i64 whose] W (RetBs [u8I whose] W)) := fun W => rpByte_calls
  have hv : Hid ((⟨id, whose, txt, op, s⟩ : Rm).right = (besideB id whose n && s.valid)) := by unfold Hid Rm.right; rw [← hn']
  have HM := Lib.hid (fun _ : Unit => rpC_mid id whose A n c op s.C)
  have HO : Hid (∀ _ : Unit, rpC id whose A n c op s.C = [.int .i64 id, .int .i64 whose, .slice A n c] ++ (cellsOf op ++ s.C)) := fun _ => rfl
  have L_p := rp_pre (id := id) (whose := whose) (A := A) (n := n) (c := c) lo
  have c0 : Hid ((rpC id whose A n c op s.C)[0]? = some (.int .i64 id)) := rfl
  have c1 : Hid ((rpC id whose A n c op s.C)[1]? = some (.int .i64 whose)) := rfl
  have c2 : Hid ((rpC id whose A n c op s.C)[2]? = some (.slice A n c)) := rfl
  have L_s := Sm.C_len oks
  have L_r := rpC_len lo L_s id whose A n c
  have BI := Lib.hid (besideB_iff (id := id) (whose := whose) (n := n))
  have HR : Hid ((⟨id, whose, txt, op, s⟩ : Rm).rows = [hiB id.toNat 4, [u8I whose], txt, op, bytesS s]) := rfl
  replace JL : Hid (_ → _) := JL
  rw [HR.out] at F1 JL
  rw [hv.out] at F0 F1 JL
  clear HR hv
  generalize bytesRp ⟨id, whose, txt, op, s⟩ = RB at *
  generalize bytesRpE ⟨id, whose, txt, op, s⟩ = RE at *
  have S_r : (rpC id whose A n c op s.C).toArray.size = 103 := by rw [List.size_toArray, L_r]
  obtain ⟨L, hL⟩ : ∃ x, x = rpC id whose A n c op s.C := ⟨_, rfl⟩
  rw [← hL] at VB HM HO c0 c1 c2 S_r ⊢
  clear hL L_r
  generalize [Value.int .i64 id, .int .i64 whose, .slice A n c] ++ cellsOf op = PR at *
  obtain ⟨SC, hSC⟩ : ∃ x, x = s.C := ⟨_, rfl⟩
  rw [← hSC] at BY HM HO L_s
  clear hSC oks
  generalize s.valid = va at *
  generalize bytesS s = SB at *
  generalize bytesE s = SE at *
  obtain ⟨ri, hr⟩ : ∃ x, x = w.heap.size := ⟨_, rfl⟩
  have B0 : Hid (Cb (w.alloc (Obj.cells L.toArray 28)) ri 28 L ∧ Ext w (w.alloc (Obj.cells L.toArray 28))) := by rw [hr]; exact ⟨Cb.new _ _ _, (Ext.refl w).alloc _⟩
  go_enter Tryd.func15, Tryd.ntmps15
  go_upto_region 1 with fail
  refine wp_gen (fun W => Cb W ri 28 L ∧ Ext w W) B0.out ?_
  rw [← hr]
  clear B0
  replace hr := Lib.hid hr
  rintro w0 ⟨k0, x0⟩
  have b35 : Hid (∀ j v, SC[j]? = some v → w0.cell? ⟨ri, 35 + j, none⟩ = some v) := Lib.hid (k0.mid (HM.out ()) L_p)
  have P0 : Hid (∀ u, Ext w0 u → Cb u ri 28 L ∧ Ext w u) := fun u x => ⟨k0.ext x, x0.trans x⟩
  clear k0 x0
  go_wp2_with (refine wpList_load_mid rfl (g := ri) (off := 35) (ys := SC) rfl rfl b35.out rfl rfl (by rw [L_s]; rfl) ?_; go_frame)
  refine (BY.out _).mono ?_
  rintro e w1 ⟨A1, n1, m1, rfl, o1, x1⟩
  have k1 := Lib.hid (P0.out w1 x1).1
  have s1 := Lib.hid o1.bs
  replace x1 := Lib.hid x1
  clear b35 BY o1
  rcases va with _ | _
  · obtain ⟨_, rfl⟩ := BS0 rfl
    obtain ⟨f1, f2⟩ := F0 (by simp)
    have F := Lib.hid (P0.out w1 x1.out).2
    clear BS1 F1 P0 VB OB JL
    go_wp2_with fail
    go_ret2
    exact ⟨none, 0, 0, by rw [f2]; rfl, by rw [f1]; exact Bs.nil _, F.out⟩
  obtain ⟨_, rfl⟩ := BS1 rfl
  have P1 : Hid (∀ u, Ext w1 u → Cb u ri 28 L ∧ Bs u A1 n1 m1 SB ∧ Ext w u) := fun u x => ⟨(P0.out u (x1.out.trans x)).1, s1.out.ext x, (P0.out u (x1.out.trans x)).2⟩
  clear BS0 P0 x1
  go_wp2_with (first | ((with_reducible refine wpList_load_rowW (o := ⟨some 16, _, _, _, _, _⟩) ?_ 28 _ rfl ri ?_ 28 L.toArray (0, 0) _ ?_ Tryd.underlying28 ?_ ?_ ?_); (· rfl); (· rfl); (· exact k1.out); (· rfl); (· rw [S_r]; rfl); go_frame))
  refine (VB.out _).mono ?_
  rintro e w2 ⟨rfl, x2⟩
  replace x2 := Lib.hid x2
  clear VB k1 s1
  rcases hbe : besideB id whose n with _ | _
  · rw [hbe] at F0
    obtain ⟨f1, f2⟩ := F0 (by simp)
    have F := Lib.hid (P1.out w2 x2.out).2.2
    clear F1 P1 OB JL hbe
    go_wp2_with fail
    go_ret2
    exact ⟨none, 0, 0, by rw [f2]; rfl, by rw [f1]; exact Bs.nil _, F.out⟩
  rw [hbe] at F1 JL
  obtain ⟨f1, f2⟩ := F1 rfl
  obtain ⟨⟨i0, i1⟩, _, _⟩ := BI.out.1 hbe
  obtain ⟨m, rfl⟩ : ∃ m : Nat, id = (m : Int) := ⟨id.toNat, by omega⟩
  rw [Int.toNat_natCast] at f1 JL
  have HI : Hid (∀ (W : World), Calls Tryd.prog 45 #[.int .u64 (m : Int), .int .i64 4] W (RetOwn (hiB m 4) W)) := fun W => highO_calls (by omega) (by omega) (by omega) (by omega) rfl
  have JO : Hid (∀ (W : World) (C : Option Addr), Rw W C 5 5 [hiB m 4, [u8I whose], txt, op, SB] → Calls Tryd.prog 46 #[.slice C 5 5] W (RetBs RB W)) := fun W C r => by rw [f1]; exact join_calls r (JL.out (by simp))
  have u1 : IntKind.u64.wrap (m : Int) = (m : Int) := IntWalk.u64_in _ (by omega)
  have l4 := hiB_len m 4
  generalize hiB m 4 = b4 at *
  replace f2 := Lib.hid (fun _ : Unit => f2)
  clear F0 JL hbe BI f1
  have P2 : Hid (∀ u, Ext w2 u → Cb u ri 28 L ∧ Bs u A1 n1 m1 SB ∧ Bs u A n c txt ∧ Ext w u) := fun u x => ⟨(P1.out u (x2.out.trans x)).1, (P1.out u (x2.out.trans x)).2.1, hb.ext ((P1.out u (x2.out.trans x)).2.2), (P1.out u (x2.out.trans x)).2.2⟩
  clear P1 x2
  have g0 := (P2.out w2 (Ext.refl _)).1.cell c0.out
  go_wp2_with fail
  refine (HI.out _).mono ?_
  rintro e w3 ⟨A3, n3, m3, rfl, o3, x3⟩
  obtain rfl : n3 = 4 := by rw [← o3.len, l4]
  have b3 := Lib.hid o3.bs
  have P3 : Hid (∀ u, Ext w3 u → Bs u A3 4 m3 b4 ∧ Bs u A1 n1 m1 SB ∧ Bs u A n c txt ∧ Bs u (some ⟨ri, 3, none⟩) 32 32 op ∧ Ext w u) := fun u x => ⟨b3.out.ext x, (P2.out u (x3.trans x)).2.1, (P2.out u (x3.trans x)).2.2.1, (P2.out u (x3.trans x)).1.bs (HO.out ()) rfl lo (by omega), (P2.out u (x3.trans x)).2.2.2⟩
  have P4 : Hid (∀ u, Ext w3 u → u.cell? ⟨ri, 1, none⟩ = some (.int .i64 whose) ∧ u.cell? ⟨ri, 2, none⟩ = some (.slice A n c)) := fun u x => ⟨(P2.out u (x3.trans x)).1.cell c1.out, (P2.out u (x3.trans x)).1.cell c2.out⟩
  clear P2 HI g0 o3 x3 b3 c0 c1 c2
  go_upto_region 5 with fail
  refine qgE [0, 1, 2, 4, 5, 6, 7, 8, 3, 9, 10, 11, 12] [3, 9, 10] ?_
  have e0 : Hid (Ext w3 w3.drew) := (Ext.refl w3).drew
  generalize w3.drew = W at *
  repeat ((first | refine qR _ (fun w' e => P4.out w' (e0.out.trans e)) ?_ | refine qS ?_); go_frame)
  refine qD fun K1 hK1 => ?_
  go_simp
  refine (OB.out _).mono ?_
  rintro e w4 ⟨A4, n4, c4, rfl, b5, x4⟩
  obtain rfl : n4 = 1 := b5.len.symm
  refine hK1.out _ _ x4 ?_
  clear hK1 K1
  try go_frame
  have e4 := Lib.hid (e0.out.trans x4)
  have hR := Lib.hid (rw_lit5 (t := 22) (P3.out w4 e4.out).1 b5 (P3.out w4 e4.out).2.2.1 (P3.out w4 e4.out).2.2.2.1 (P3.out w4 e4.out).2.1)
  clear b5 x4
  repeat ((first | refine qR _ (fun w' e => P4.out w' (e4.out.trans e)) ?_ | refine qS ?_); go_frame)
  refine qD fun K3 hK3 => ?_
  go_simp
  refine hK3.out _ _ ((Ext.refl w4).alloc _) ?_
  clear hK3 K3
  try go_frame
  refine qD fun K4 hK4 => ?_
  go_simp
  refine (JO.out _ _ hR.out).mono ?_
  rintro e w6 ⟨A6, n6, c6, rfl, b6, x6⟩
  refine hK4.out _ _ x6 ?_
  clear hK4 K4
  try go_frame
  repeat ((first | refine qR0 ?_ | refine qS ?_); go_frame)
  refine seq_done ?_
  have F := Lib.hid ((P3.out _ e4.out).2.2.2.2.trans (((Ext.refl w4).alloc _).trans x6))
  replace b6 := Lib.hid b6
  clear x6 hR e4 e0 P3 P4 JO OB
  go_wp2_with fail
  go_ret2
  exact ⟨A6, n6, c6, by rw [f2.out ()]; rfl, b6.out, F.out⟩
end Go.Proofs.YtmnohmhhmaeljaaDoor
end

section
/-
  A slice of bytes beside a one-celled block that turns.
-/
namespace Go.Proofs.YtmnohmhhmaeljaaDoor
open Go.ChangeShapes Go.WideShapes Go.ChangeAt Go.RowKit Go.Deep
set_option maxRecDepth 100000

theorem grown_setCell8 {w : World} {g o : Nat} {v : Value} : w.grownBy (w.setCell ⟨g, o, none⟩ v) (some g) := grown_setCells (w := w) (g := g) (o := o) (vs := [v])
theorem Bs.cell1 {w : World} {A : Option Addr} {n c g : Nat} {xs : List UInt8} {T : TypeId} {v u : Value} (h : Bs w A n c xs) (hg : Cb w g T [v]) (hv : ∀ k i, v ≠ .int k i) : Bs (w.setCell ⟨g, 0, none⟩ u) A n c xs := by
  refine ⟨h.1, h.2.1, h.2.2.1, fun h0 => ?_⟩
  obtain ⟨b, off, hA, hb, hc⟩ := h.2.2.2 h0
  have gr : w.grownBy (w.setCell ⟨g, 0, none⟩ u) (some g) := grown_setCell8
  have hne : b ≠ g := by
    intro q
    subst q
    have h1 := hc 0 h0
    rw [cell_of_row w b _ _ _ _ hg, List.getElem?_toArray] at h1
    match off, h1 with
    | 0, h1 => simp at h1; exact hv _ _ h1
    | k + 1, h1 => simp at h1
  have hq := gr.block b hb (fun q => hne (Option.some.inj q))
  refine ⟨b, off, hA, Nat.lt_of_lt_of_le hb gr.size, fun j hj => ?_⟩
  rw [← hc j hj]
  simp only [World.cell?, hq]
theorem Bs.grown {w w' : World} {A : Option Addr} {n c g : Nat} {xs : List UInt8} {T : TypeId} {v : Value} (h : Bs w A n c xs) (hg : Cb w g T [v]) (hv : ∀ k i, v ≠ .int k i) (gr : w.grownBy w' (some g)) : Bs w' A n c xs := by
  refine ⟨h.1, h.2.1, h.2.2.1, fun h0 => ?_⟩
  obtain ⟨b, off, hA, hb, hc⟩ := h.2.2.2 h0
  have hne : b ≠ g := by
    intro q
    subst q
    have h1 := hc 0 h0
    rw [cell_of_row w b _ _ _ _ hg, List.getElem?_toArray] at h1
    match off, h1 with
    | 0, h1 => simp at h1; exact hv _ _ h1
    | k + 1, h1 => simp at h1
  have hq := gr.block b hb (fun q => hne (Option.some.inj q))
  refine ⟨b, off, hA, Nat.lt_of_lt_of_le hb gr.size, fun j hj => ?_⟩
  rw [← hc j hj]
  simp only [World.cell?, hq]
end Go.Proofs.YtmnohmhhmaeljaaDoor
end

section
/-
  's[k:]' and 's[:k]' as operations of a region.
-/
namespace Go.Proofs.YtmnohmhhmaeljaaDoor
open Go.ChangeShapes Go.WideShapes Go.ChangeAt Go.RowKit Go.Deep

theorem exec_from {w : World} {o : Oper} {a : Act} {x lo : Operand} {A : Option Addr} {n c k : Nat} {kd : IntKind} (ho : o.op = .slice 22 x (some lo) none none) (hx : a.eval x = .slice A n c) (hl : a.eval lo = .int kd (k : Int)) (hk : k ≤ n) (hnc : n ≤ c) :
    (execOp a.eval o).run Tryd.prog w = .ok (.value (.slice (if c = k then A else A.map (·.add k)) (n - k) (c - k))) w := by
  obtain ⟨dst, op, ty, pos, af, gd⟩ := o
  simp only at ho
  subst ho
  obtain ⟨i, hi', hsz⟩ := Option.map_eq_some_iff.1 size8
  have q1 : (k : Int) ≤ (n : Int) := by omega
  simp only [execOp, hx, hl, Option.map, Instr.sliceAt]
  go_simp
  cases A <;> rfl
theorem exec_to {w : World} {o : Oper} {a : Act} {x hi : Operand} {A : Option Addr} {n c k : Nat} {kd : IntKind} (ho : o.op = .slice 22 x none (some hi) none) (hx : a.eval x = .slice A n c) (hl : a.eval hi = .int kd (k : Int)) (hk : k ≤ c) :
    (execOp a.eval o).run Tryd.prog w = .ok (.value (.slice A k c)) w := by
  obtain ⟨dst, op, ty, pos, af, gd⟩ := o
  simp only at ho
  subst ho
  obtain ⟨i, hi', hsz⟩ := Option.map_eq_some_iff.1 size8
  have q1 : (k : Int) ≤ (c : Int) := by omega
  have q2 : (if c = 0 then A else A.map (·.add 0)) = A := by
    split
    · rfl
    · cases A <;> simp [Addr.add]
  simp only [execOp, hx, hl, Option.map, Instr.sliceAt]
  go_simp
end Go.Proofs.YtmnohmhhmaeljaaDoor
end

section
/-
  octets.OfHigh: the number of bytes, the highest first (where the program holds neither Xor nor the law of layer 1).
-/
namespace Go.Proofs.YtmnohmhhmaeljaaDoor
open Go.ChangeShapes Go.WideShapes Go.ChangeAt Go.RowKit Go.Deep

set_option maxHeartbeats 400000 in
theorem ofHigh_calls {A : Option Addr} {n c : Nat} {m : Nat} {xs : List UInt8} {w : World} (h : Bs w A n c xs) (hm8 : m ≤ 8) (hmn : m ≤ n) (hM : (if (8 : Int) < (n : Int) then 8 else (n : Int)) = (m : Int)) :
    Calls Tryd.prog 56 #[.slice A n c] w fun e w' => e = .returned (.int .u64 (ofLowL (xs.take m).reverse : Int)) ∧ Ext w w' := by
  have h1 := h.le
  have h2 := h.cap
  go_enter Tryd.func56, Tryd.ntmps56
  go_wp2_with fail
  refine (reversed_calls (h.take hmn) (by omega)).mono ?_
  rintro e w1 ⟨A1, k, c1, rfl, hb, he⟩
  have hk : k = m := by have := hb.len; rw [List.length_reverse, List.length_take, h.len] at this; omega
  have hk' := Lib.hid hk
  clear hk hM
  go_wp2_with fail
  refine (ofLow_calls (m := m) hb hm8 (by rw [hk'.out]; omega) (by rw [hk'.out, if_neg (by omega)])).mono ?_
  rintro e w2 ⟨rfl, rfl⟩
  go_wp2_with fail
  go_ret
  refine ⟨ret_int ?_, he⟩
  rw [List.take_of_length_le (by rw [hb.len, hk'.out]; omega)]

end Go.Proofs.YtmnohmhhmaeljaaDoor
end

section
/-
  stamp.Read's closure next; numberOf; a copy into the midst of a block.
-/
namespace Go.Proofs.YtmnohmhhmaeljaaDoor
open Go.ChangeShapes Go.WideShapes Go.ChangeAt Go.RowKit Go.Deep
set_option maxRecDepth 100000

set_option maxHeartbeats 2000000 in
theorem next16_calls {w : World} {g n c k : Nat} {A : Option Addr} {xs : List UInt8} (h : Cb w g 22 [.slice A n c]) (hb : Bs w A n c xs) (hk : k ≤ n) (hm : k ≤ 1000000) :
    Calls Tryd.prog 95 #[.int .i64 (k : Int), .pointer (some ⟨g, 0, none⟩)] w fun e w' => e = .returned (.slice A k c) ∧ ∃ A', Cb w' g 22 [.slice A' (n - k) (c - k)] ∧ Bs w' A k c (xs.take k) ∧ Bs w' A' (n - k) (c - k) (xs.drop k) ∧ w.grownBy w' (some g) ∧ (∀ s, Bs s A n c xs → Bs s A k c (xs.take k) ∧ Bs s A' (n - k) (c - k) (xs.drop k)) := by
  have c0 := h.cell (j := 0) rfl
  have fz := h.frozen 0
  have hnc := hb.2.1
  have hbs : ∀ s, Bs s A n c xs → Bs s A k c (xs.take k) := fun s hb => ⟨by rw [List.length_take, hb.1]; omega, by omega, hb.2.2.1, fun h0 => by
    obtain ⟨b, off, hA, hbl, hc⟩ := hb.2.2.2 (by omega)
    exact ⟨b, off, hA, hbl, fun j hj => by rw [hc j (by omega)]; congr 3; simp [bt, List.getD, hj]⟩⟩
  have hbt := hbs w hb
  have fin : Hid (∀ (A' : Option Addr), A' = (if c = k then A else A.map (·.add k)) → Cb (w.setCell ⟨g, 0, none⟩ (.slice A' (n - k) (c - k))) g 22 [.slice A' (n - k) (c - k)] ∧ Bs (w.setCell ⟨g, 0, none⟩ (.slice A' (n - k) (c - k))) A k c (xs.take k) ∧ Bs (w.setCell ⟨g, 0, none⟩ (.slice A' (n - k) (c - k))) A' (n - k) (c - k) (xs.drop k) ∧ w.grownBy (w.setCell ⟨g, 0, none⟩ (.slice A' (n - k) (c - k))) (some g) ∧ (∀ s, Bs s A n c xs → Bs s A k c (xs.take k) ∧ Bs s A' (n - k) (c - k) (xs.drop k))) := fun A' hA' => by
    subst hA'
    exact ⟨h.setCell, hbt.cell1 h (fun k i q => by cases q), (hb.cut hk).cell1 h (fun k i q => by cases q), grown_setCell8, fun s q => ⟨hbs s q, q.cut hk⟩⟩
  clear hbt hbs
  clear h hb
  by_cases hck : c = k
  · subst hck
    obtain rfl : n = c := by omega
    have f := fin.out A (if_pos rfl).symm
    simp only [Nat.sub_self] at f
    replace f := Lib.hid f
    clear fin
    go_enter Tryd.func95, Tryd.ntmps95
    go_wp2_with fail
    go_ret
    exact ⟨rfl, A, by simp only [Nat.sub_self]; exact f.out⟩
  · have f := Lib.hid (fin.out (A.map (·.add k)) (if_neg hck).symm)
    clear fin
    go_enter Tryd.func95, Tryd.ntmps95
    go_wp2_with fail
    go_ret
    exact ⟨rfl, A.map (·.add k), f.out⟩
set_option maxHeartbeats 2000000 in
theorem number16_calls {w : World} {c k : Nat} {A : Option Addr} {xs : List UInt8} (h : Bs w A k c xs) (hk : k ≤ 4) (hv : numN xs k < 4294967296) :
    Calls Tryd.prog 96 #[.slice A k c] w fun e w' => e = .returned (.int .i64 (numN xs k : Int)) ∧ Ext w w' := by
  have OH : Hid (Calls Tryd.prog 56 #[.slice A k c] w fun e w' => e = .returned (.int .u64 (numN xs k : Int)) ∧ Ext w w') := ofHigh_calls (m := k) h (by omega) (Nat.le_refl _) (if_neg (by omega))
  generalize numN xs k = v at *
  have u1 : IntKind.i64.wrap (v : Int) = (v : Int) := IntWalk.i64_in _ (by omega)
  clear h
  go_enter Tryd.func96, Tryd.ntmps96
  go_wp2_with fail
  refine OH.out.mono ?_
  rintro e w2 ⟨rfl, e2⟩
  clear OH
  go_wp2_with fail
  go_ret
  exact ⟨rfl, e2⟩
/-- Bytes are copied into the midst of a block. -/
theorem upon_copy_mid {o : Oper} {a : Act} {K : Act → World → Prop} {Q : Exit → Act → World → Prop} {W : World} {g off dCap : Nat} {L p y q : List Value} {t dT sT ty : TypeId} {A : Option Addr} {n c : Nat} {xs : List UInt8} (hu : Tryd.prog.underlying dT = some (.slice 5)) (hg : Cb W g t L) (hL : L = p ++ (y ++ q)) (hp : p.length = off) (hy : y.length = n) (h : Bs W A n c xs) (h0 : 0 < n)
    (H : Oper.upon Tryd.prog o a K Q (.ok (Next.value (goInt n)) (W.setRow g (p ++ (cellsOf xs ++ q)).toArray))) :
    Oper.upon Tryd.prog o a K Q (((Builtin.copy_ #[dT, sT] ty #[.slice (some ⟨g, off, none⟩) n dCap, .slice A n c]).run Tryd.prog W).andThen fun a w' => .ok (Next.value a) w') := by
  have hl := h.len
  obtain ⟨b, o', rfl, hb, hcl⟩ := h.pos h0
  have hsz : (Tryd.prog.info? 5).map (·.size) = some 1 := rfl
  have hx : (cellsOf xs).length = n := by rw [cellsOf_len, hl]
  have hr := run_copy_row Tryd.prog W dT sT ty _ g off n dCap ⟨b, o', none⟩ n c L.toArray t (cellsOf xs) hu hsz hg (by rw [hx]; exact (Nat.min_self n).symm) (fun j v hv => by
    have hj : j < n := by
      have := (List.getElem?_eq_some_iff.1 hv).1
      rwa [hx] at this
    rw [cellsOf_get (by omega)] at hv
    injection hv with hv
    subst hv
    have : (⟨b, o', none⟩ : Addr).add j = ⟨b, o' + j, none⟩ := by unfold Addr.add; split <;> simp_all
    rw [this]
    exact hcl j (by omega)) (by rw [hx, List.size_toArray, hL]; simp; omega) (fun v hv => by
    obtain ⟨j, _, rfl⟩ := List.mem_map.1 hv
    rfl)
  have he : (L.toArray.toList.take off ++ cellsOf xs ++ L.toArray.toList.drop (off + (cellsOf xs).length)) = p ++ (cellsOf xs ++ q) := by
    rw [hx, hL, ← hp, ← hy]
    simp [List.take_append, List.drop_append]
  rw [he, hx] at hr
  rw [hr]
  exact H
end Go.Proofs.YtmnohmhhmaeljaaDoor
end

section
/-
  Maps that hold just the entries of a list, each element read as itself; a range over one. No conditions.
-/
namespace Go.Proofs.YtmnohmhhmaeljaaDoor
open Go.ChangeShapes Go.WideShapes Go.ChangeAt Go.RowKit Go.Deep Go.Maps
open Go.WideElems (Fit rd rg pl rd_key rd_val rg_of)

/-- An element is read as itself. -/
def rawE (v : Value) : Option (DataW Value × List MemPlace) := some (.held v, [])
/-- The datum holds just the entries of the list. -/
structure Vw (P : Program) (k : TypeId) (D : DataW Value) (E : List (Value × Value)) : Prop where
  apart : E.Pairwise (fun p q => p.1 ≠ q.1)
  size : Maps.size D = E.length
  into : ∀ p ∈ E, ∃ kl, keyOf P k p.1 = some kl ∧ Maps.has D kl = true ∧ ∀ z, D.atKey kl z = .held p.2
  back : ∀ kl, Maps.has D kl = true → ∃ p ∈ E, keyOf P k p.1 = some kl
section
variable {P : Program} {k t e : TypeId} {w w' : World} {b : Nat} {E : List (Value × Value)} {D : DataW Value}
theorem Vw.hit (h : Vw P k D E) (K : Keyed P k) {key : Value} {kl : Lit} (hk : keyOf P k key = some kl) (hh : Maps.has D kl = true) : ∃ v, (key, v) ∈ E ∧ ∀ z, D.atKey kl z = .held v := by
  obtain ⟨p, hp, q⟩ := h.back kl hh
  obtain ⟨kl', h1, _, h3⟩ := h.into p hp
  obtain rfl : kl' = kl := by rw [q] at h1; exact (Option.some.inj h1).symm
  obtain rfl : p.1 = key := K.inj q hk
  exact ⟨p.2, hp, h3⟩
theorem Vw.miss (h : Vw P k D E) {key : Value} {kl : Lit} (hk : keyOf P k key = some kl) (hh : Maps.has D kl = false) : ∀ p ∈ E, p.1 ≠ key := fun p hp e => by
  obtain ⟨kl', h1, h2, _⟩ := h.into p hp
  rw [e, hk] at h1
  obtain rfl := Option.some.inj h1
  rw [hh] at h2; cases h2
theorem Vw.has_false (h : Vw P k D E) (K : Keyed P k) {key : Value} {kl : Lit} (hk : keyOf P k key = some kl) (hm : ∀ p ∈ E, p.1 ≠ key) : Maps.has D kl = false := by
  cases hh : Maps.has D kl
  · rfl
  · obtain ⟨p, hp, q⟩ := h.back kl hh
    exact absurd (K.inj q hk) (hm p hp)
theorem apart_one {E : List (Value × Value)} (h : E.Pairwise (fun p q => p.1 ≠ q.1)) {key v v' : Value} (h1 : (key, v) ∈ E) (h2 : (key, v') ∈ E) : v = v' := by
  induction E with
  | nil => cases h1
  | cons x r ih =>
    obtain ⟨a, b⟩ := List.pairwise_cons.1 h
    rcases List.mem_cons.1 h1 with q1 | q1 <;> rcases List.mem_cons.1 h2 with q2 | q2
    · rw [← q1] at q2; exact (congrArg Prod.snd q2).symm
    · exact ((a _ q2) (by rw [← q1])).elim
    · exact ((a _ q1) (by rw [← q2])).elim
    · exact ih b q1 q2
theorem Vw.nil (P : Program) (k : TypeId) : Vw P k (.map []) [] := ⟨List.Pairwise.nil, rfl, (fun p hp => by cases hp), (fun kl h => by cases h)⟩
/-- A new key. -/
theorem Vw.add (h : Vw P k D E) (K : Keyed P k) (T : Tidy D) {key v : Value} {kl : Lit} (hk : keyOf P k key = some kl) (hm : ∀ p ∈ E, p.1 ≠ key) : Vw P k (D.put kl (.held v)) (E ++ [(key, v)]) := by
  have hf := h.has_false K hk hm
  have IK := K.key hk
  refine ⟨?_, ?_, fun p hp => ?_, fun kl' hh => ?_⟩
  · rw [List.pairwise_append]
    exact ⟨h.apart, List.pairwise_singleton _ _, fun a ha b hb => by rw [List.mem_singleton.1 hb]; exact hm a ha⟩
  · rw [size_put T, hf, h.size, List.length_append]; rfl
  · rcases List.mem_append.1 hp with q | q
    · obtain ⟨kl', h1, h2, h3⟩ := h.into p q
      have hne : kl' ≠ kl := fun e => by rw [e, hf] at h2; cases h2
      exact ⟨kl', h1, by rw [has_put_other hne]; exact h2, fun z => by rw [atKey_put_other hne]; exact h3 z⟩
    · rw [List.mem_singleton.1 q]
      exact ⟨kl, hk, has_put_same T.isMap IK _, fun z => atKey_put_same T.isMap IK _ z⟩
  · by_cases e : kl' = kl
    · subst e
      exact ⟨(key, v), by simp, hk⟩
    · rw [has_put_other e] at hh
      obtain ⟨p, hp, q⟩ := h.back kl' hh
      exact ⟨p, List.mem_append_left _ hp, q⟩
/-- A key is struck. -/
theorem Vw.del (h : Vw P k D E) (K : Keyed P k) (T : Tidy D) {E' : List (Value × Value)} {key : Value} {kl : Lit} (hk : keyOf P k key = some kl) (hs : E'.Sublist E) (hm : ∀ p ∈ E, p ∈ E' ↔ p.1 ≠ key) (hl : E'.length + (if Maps.has D kl then 1 else 0) = E.length) : Vw P k (D.del kl) E' := by
  refine ⟨h.apart.sublist hs, ?_, fun p hp => ?_, fun kl' hh => ?_⟩
  · have := size_del (k := kl) T
    rw [h.size] at this
    omega
  · have hp' := hs.subset hp
    obtain ⟨kl', h1, h2, h3⟩ := h.into p hp'
    have hne : kl' ≠ kl := fun e => (hm p hp').1 hp (K.inj (e ▸ h1) hk)
    exact ⟨kl', h1, by rw [has_del_other hne]; exact h2, fun z => by rw [atKey_del_other hne]; exact h3 z⟩
  · by_cases e : kl' = kl
    · subst e
      rw [has_del_same] at hh; cases hh
    · rw [has_del_other e] at hh
      obtain ⟨p, hp, q⟩ := h.back kl' hh
      refine ⟨p, (hm p hp).2 fun r => e ?_, q⟩
      rw [r, hk] at q
      exact (Option.some.inj q).symm

/-- Block b is a map that holds just the entries E. -/
def Mp (P : Program) (k : TypeId) (w : World) (b : Nat) (E : List (Value × Value)) : Prop := ∃ D, w.ownsMap P k rawE b E.length D ∧ Vw P k D E
theorem owns_size {n : Nat} (h : w.ownsMap P k rawE b n D) : w.ownsMap P k rawE b (Maps.size D) D := by
  obtain ⟨es, clock, hb, F, hs, rfl⟩ := h
  exact ⟨es, clock, hb, F, by simp [Maps.size, length_sorted], rfl⟩
theorem Mp.of {n : Nat} (h : w.ownsMap P k rawE b n D) (v : Vw P k D E) : Mp P k w b E := ⟨D, by have := owns_size h; rwa [v.size] at this, v⟩
theorem Mp.lt (h : Mp P k w b E) : b < w.heap.size := by obtain ⟨D, h, _⟩ := h; exact h.lt
theorem Mp.kept {row : Option Nat} (h : Mp P k w b E) (hg : w.grownBy w' row) (hne : some b ≠ row) : Mp P k w' b E := by obtain ⟨D, h, v⟩ := h; exact ⟨D, h.kept hg hne, v⟩
theorem Mp.stay (h : Mp P k w b E) (hb : w'.heap[b]? = w.heap[b]?) : Mp P k w' b E := by
  obtain ⟨D, ⟨es, clock, h1, h2⟩, v⟩ := h
  exact ⟨D, ⟨es, clock, hb.trans h1, h2⟩, v⟩
theorem Mp.ext (h : Mp P k w b E) (x : Ext w w') : Mp P k w' b E := h.stay (x.block _ h.lt)
theorem Mp.obj (h : Mp P k w b E) : ∃ es c, w.heap[b]? = some (.map es c) := by
  obtain ⟨D, ⟨es, clock, h1, _⟩, v⟩ := h
  exact ⟨es, clock, h1⟩
theorem Mp.apart (h : Mp P k w b E) : E.Pairwise (fun p q => p.1 ≠ q.1) := by obtain ⟨D, _, v⟩ := h; exact v.apart
theorem Mp.made (w : World) (P : Program) (k : TypeId) : Mp P k (w.alloc (.map #[] 0)) w.heap.size [] := ⟨_, World.ownsMap_made w P k rawE, Vw.nil P k⟩
theorem Mp.look (h : Mp P k w b E) (K : Keyed P k) (ht : P.underlying t = some (.map k e)) {z : Value} (hz : (zeroValue e).run P w = .ok z w) {key : Value} {kl : Lit} (hkey : keyOf P k key = some kl) :
    (∃ v, (key, v) ∈ E ∧ (Instr.lookup t (.map (some b)) key true).run P w = .ok (.tuple #[v, .bool true]) w ∧ (Instr.lookup t (.map (some b)) key false).run P w = .ok v w) ∨
    ((∀ p ∈ E, p.1 ≠ key) ∧ (Instr.lookup t (.map (some b)) key true).run P w = .ok (.tuple #[z, .bool false]) w ∧ (Instr.lookup t (.map (some b)) key false).run P w = .ok z w) := by
  obtain ⟨D, h, v⟩ := h
  obtain ⟨x, ps, r1, r2⟩ := h.look_ok K ht hz (zd := .held z) (zp := []) rfl hkey
  obtain ⟨x', ps', r1', r2'⟩ := h.lookup K ht hz (zd := .held z) (zp := []) rfl hkey
  injection r2 with r2
  injection r2' with r2'
  have e1 := congrArg Prod.fst r2
  have e2 := congrArg Prod.fst r2'
  cases hh : Maps.has D kl
  · right
    rw [atKey_of_not_has hh] at e1 e2
    injection e1 with e1
    injection e2 with e2
    subst e1
    subst e2
    rw [hh] at r1
    exact ⟨v.miss hkey hh, r1, r1'⟩
  · left
    obtain ⟨y, h1, h2⟩ := v.hit K hkey hh
    rw [h2] at e1 e2
    injection e1 with e1
    injection e2 with e2
    subst e1
    subst e2
    rw [hh] at r1
    exact ⟨_, h1, r1, r1'⟩
theorem Mp.add (h : Mp P k w b E) (K : Keyed P k) (ht : P.underlying t = some (.map k e)) (hn : E.length < maxLen) {key : Value} {kl : Lit} (hkey : keyOf P k key = some kl) (hm : ∀ p ∈ E, p.1 ≠ key) (v : Value) :
    ∃ w', (Instr.mapUpdate t (.map (some b)) key v).run P w = .ok () w' ∧ Mp P k w' b (E ++ [(key, v)]) ∧ w.grownBy w' (some b) ∧ ∃ es c, w'.heap[b]? = some (.map es c) := by
  obtain ⟨D, h, vw⟩ := h
  obtain ⟨w1, r1, r2, r3⟩ := h.update K ht hn hkey (d := .held v) (ps := []) rfl
  have m : Mp P k w1 b (E ++ [(key, v)]) := Mp.of r2 (vw.add K (h.tidy K) hkey hm)
  exact ⟨w1, r1, m, r3, m.obj⟩
theorem Mp.drop (h : Mp P k w b E) (K : Keyed P k) (ht : P.underlying t = some (.map k e)) {key : Value} {kl : Lit} (hkey : keyOf P k key = some kl) {E' : List (Value × Value)} (hs : E'.Sublist E) (hm : ∀ p ∈ E, p ∈ E' ↔ p.1 ≠ key) (hl : (∀ p ∈ E, p.1 ≠ key) ∨ E'.length + 1 = E.length) (ty : TypeId) :
    ∃ w', (Builtin.delete_ #[t, k] ty #[.map (some b), key]).run P w = .ok (.tuple #[]) w' ∧ Mp P k w' b E' ∧ w.mapTurned w' b := by
  obtain ⟨D, h, vw⟩ := h
  obtain ⟨w1, r1, r2, r3⟩ := h.drop K ht hkey ty
  refine ⟨w1, r1, Mp.of r2 (vw.del K (h.tidy K) hkey hs hm ?_), r3⟩
  rcases hl with hl | hl
  · rw [vw.has_false K hkey hl]
    have : E' = E := hs.eq_of_length_le (List.Nodup.length_le_of_subset (vw.apart.imp fun h e => h (congrArg Prod.fst e)) fun p hp => (hm p hp).2 (hl p hp))
    rw [this]; rfl
  · rcases hh : Maps.has D kl with _ | _
    · exfalso
      have hmiss := vw.miss hkey hh
      have : E.length ≤ E'.length := List.Nodup.length_le_of_subset (vw.apart.imp fun h e => h (congrArg Prod.fst e)) fun p hp => (hm p hp).2 (hmiss p hp)
      omega
    · simpa using hl
theorem Mp.len (h : Mp P k w b E) (ht : P.underlying t = some (.map k e)) (ty : TypeId) : (Builtin.len_ #[t] ty #[.map (some b)]).run P w = .ok (.int .i64 (E.length : Int)) w := by
  obtain ⟨D, h, vw⟩ := h
  rw [h.len ht ty, vw.size]

/-- A range over the map in block b is under way, its iterator in block r; lf: the keys that are still to come. -/
def Mr (P : Program) (k : TypeId) (w : World) (b r : Nat) (E : List (Value × Value)) (lf : Value → Prop) (cnt : Nat) : Prop :=
  ∃ D left, w.ranges P k rawE b r E.length D left cnt ∧ Vw P k D E ∧ ∀ p ∈ E, (lf p.1 ↔ ∃ kl, keyOf P k p.1 = some kl ∧ left kl = true)
theorem Mr.mp {r cnt : Nat} {lf : Value → Prop} (h : Mr P k w b r E lf cnt) : Mp P k w b E := by obtain ⟨D, left, h, v, _⟩ := h; exact ⟨D, h.owns, v⟩
theorem Mr.kept {r cnt : Nat} {lf : Value → Prop} {row : Option Nat} (h : Mr P k w b r E lf cnt) (hg : w.grownBy w' row) (hb : some b ≠ row) (hr : some r ≠ row) : Mr P k w' b r E lf cnt := by
  obtain ⟨D, left, h, v⟩ := h
  exact ⟨D, left, h.kept hg hb hr, v⟩
theorem Mr.ext {r cnt : Nat} {lf : Value → Prop} (h : Mr P k w b r E lf cnt) (x : Ext w w') : Mr P k w' b r E lf cnt := h.kept (row := none) ⟨x.os, x.tape, x.output, x.size, fun i hi _ => x.block i hi⟩ (by simp) (by simp)
theorem Mr.lt {r cnt : Nat} {lf : Value → Prop} (h : Mr P k w b r E lf cnt) : r < w.heap.size := by obtain ⟨D, left, h, _⟩ := h; exact h.lt
theorem Mr.left_eq {r cnt : Nat} {lf : Value → Prop} (h : Mr P k w b r E lf cnt) : w.rangeLeft b r = cnt := by obtain ⟨D, left, h, _⟩ := h; exact h.left_eq
theorem Mp.range (h : Mp P k w b E) (K : Keyed P k) (ht : P.underlying t = some (.map k e)) :
    ∃ w', (Instr.range t (.map (some b))).run P w = .ok (.pointer (some ⟨w.heap.size, 0, none⟩)) w' ∧ Mr P k w' b w.heap.size E (fun _ => True) E.length ∧ Ext w w' := by
  obtain ⟨D, h, vw⟩ := h
  obtain ⟨w1, r1, r2, r3, r4⟩ := h.range K ht
  rw [vw.size] at r2
  exact ⟨w1, r1, ⟨D, _, r2, vw, fun p hp => ⟨fun _ => by obtain ⟨kl, h1, h2, _⟩ := vw.into p hp; exact ⟨kl, h1, h2⟩, fun _ => trivial⟩⟩, ⟨r3.os, r3.tape, r3.output, r3.size, fun i hi => r3.block i hi (by simp)⟩⟩
/-- The step: nothing is left, or an entry comes. -/
theorem Mr.next {r cnt : Nat} {lf : Value → Prop} (h : Mr P k w b r E lf cnt) (K : Keyed P k) (ty : TypeId) :
    ((∀ p ∈ E, ¬ lf p.1) ∧ (Instr.next (.pointer (some ⟨r, 0, none⟩)) false ty).run P w = .ok (.tuple #[.bool false]) w) ∨
    ∃ p ∈ E, lf p.1 ∧ ∃ w' cnt', (Instr.next (.pointer (some ⟨r, 0, none⟩)) false ty).run P w = .ok (.tuple #[.bool true, p.1, p.2]) w' ∧ Mr P k w' b r E (fun key => lf key ∧ key ≠ p.1) cnt' ∧ cnt' < cnt ∧
      w.grownBy w' (some r) ∧ w'.heap.size = w.heap.size ∧ (Instr.entry (.pointer (some ⟨r, 0, none⟩))).run P w' = .ok (.tuple #[p.1, p.2]) w' := by
  obtain ⟨D, left, h, vw, hl⟩ := h
  rcases h.next K ty with ⟨h0, hn, hrun⟩ | ⟨key, v, kl, y, w1, cnt', hkey, hlk, hv, hat, hrun, hrg, hlt, hgr, hsz, hen⟩
  · refine .inl ⟨fun p hp q => ?_, hrun⟩
    obtain ⟨kl, _, h2⟩ := (hl p hp).1 q
    rw [hn kl] at h2; cases h2
  · right
    have hh : Maps.has D kl = true := has_true_of_atKey hat
    obtain ⟨v', h1, h2⟩ := vw.hit K hkey hh
    have : v = v' := by
      have q := (hat (.held v)).symm.trans (h2 (.held v))
      injection hv with hv
      rw [← hv] at q
      injection q
    subst this
    refine ⟨(key, v), h1, (hl _ h1).2 ⟨kl, hkey, hlk⟩, w1, cnt', hrun, ⟨D, _, hrg, vw, fun p hp => ?_⟩, hlt, hgr, hsz, hen⟩
    show (lf p.1 ∧ p.1 ≠ key) ↔ _
    rw [hl p hp]
    constructor
    · rintro ⟨⟨kl', q1, q2⟩, q3⟩
      refine ⟨kl', q1, ?_⟩
      show (left kl' && !kl'.sameKey kl) = true
      rw [q2, sameKey_ne (fun e => q3 (K.inj (q1.trans (congrArg some e)) hkey))]
      rfl
    · rintro ⟨kl', q1, q2⟩
      have q2 : (left kl' && !kl'.sameKey kl) = true := q2
      simp only [Bool.and_eq_true, Bool.not_eq_true'] at q2
      refine ⟨⟨kl', q1, q2.1⟩, fun e => ?_⟩
      rw [show p.1 = key from e, hkey] at q1
      obtain rfl := Option.some.inj q1
      rw [WideAt.sameKey_self (K.key hkey)] at q2
      cases q2.2
end
end Go.Proofs.YtmnohmhhmaeljaaDoor
end
