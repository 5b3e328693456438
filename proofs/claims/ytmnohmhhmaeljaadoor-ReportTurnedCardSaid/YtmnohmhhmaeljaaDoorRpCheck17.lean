import Derived.Test.YtmnohmhhmaeljaaDoorPkI
import Derived.Test.YtmnohmhhmaeljaaDoorCheck16
import Derived.Test.YtmnohmhhmaeljaaDoorPkC
/-
  report.Check.
-/
namespace Go.Proofs.YtmnohmhhmaeljaaDoor
open Go.ChangeShapes Go.WideShapes Go.ChangeAt Go.RowKit Go.Deep Go.Maps
set_option maxRecDepth 100000

/-- What a report commits to. -/
def comR (r : Rm) : List UInt8 := macL r.op (joinL [[u8I r.st.f], [u8I r.st.t], r.txt])
/-- Why a report is no good. -/
def chkR (root : List UInt8) (ticks : Nat) (r : Rm) (now : Int) : Int :=
  if r.right && decide (r.whose = r.st.t) then (if chkE root ticks r.st now = 0 then (if comR r = r.st.cm then 0 else 4) else chkE root ticks r.st now) else 1
theorem chkR_facts {root : List UInt8} {ticks : Nat} {r : Rm} {now : Int} : ((r.right && decide (r.whose = r.st.t)) = false → chkR root ticks r now = 1) ∧ ((r.right && decide (r.whose = r.st.t)) = true → (chkE root ticks r.st now ≠ 0 → chkR root ticks r now = chkE root ticks r.st now) ∧ (chkE root ticks r.st now = 0 → ∀ b, (!decide (comR r = r.st.cm)) = b → chkR root ticks r now = if b then 4 else 0)) := by
  unfold chkR
  refine ⟨fun h => by rw [h]; rfl, fun h => ⟨fun h1 => by rw [h, if_pos rfl, if_neg h1], fun h1 b hb => ?_⟩⟩
  rw [h, if_pos rfl, if_pos h1]
  subst hb
  by_cases q : comR r = r.st.cm
  · rw [if_pos q, decide_eq_true q]; rfl
  · rw [if_neg q, decide_eq_false q]; rfl
theorem Bs.mapTurn {w w' : World} {A : Option Addr} {n c mb : Nat} {k : TypeId} {E : List (Value × Value)} {xs : List UInt8} (h : Bs w A n c xs) (m : Mp Tryd.prog k w mb E) (x : w.grownBy w' (some mb)) : Bs w' A n c xs :=
  ⟨h.1, h.2.1, h.2.2.1, fun h0 => by
    obtain ⟨b, off, hA, hb, hc⟩ := h.2.2.2 h0
    have hne : b ≠ mb := by
      rintro rfl
      obtain ⟨es, cc, q⟩ := m.obj
      have := hc 0 h0
      simp [World.cell?, q] at this
    exact ⟨b, off, hA, Nat.lt_of_lt_of_le hb x.size, fun j hj => (World.cell?_of_block (x.block b hb (fun z => hne (Option.some.inj z)))).trans (hc j hj)⟩⟩
theorem com_len (r : Rm) (h : r.txt.length ≤ 250) : (joinL [[u8I r.st.f], [u8I r.st.t], r.txt]).length ≤ 100000000 := by
  simp [joinL, row4_len]; omega
set_option maxHeartbeats 16000000 in
theorem check17_calls {w : World} {g mb q ticks : Nat} {root : List UInt8} {EE : List (Value × Value)} (h : SR w g mb q root ticks EE) (hE : EE.length ≤ 1000000) (t1 : 1 ≤ ticks) (t2 : ticks ≤ 1000000) {r : Rm} {A : Option Addr} {c : Nat} (ok : r.ok) (hb : Bs w A r.txt.length c r.txt) {now : Int} {tg : TypeId × Nat × Nat} (hG : Gl w tg) :
    Calls Tryd.prog 21 #[.pointer (some ⟨g, 0, none⟩), .agg (rpC r.id r.whose A r.txt.length c r.op r.st.C).toArray, .int .i64 now] w fun e w' => e = .returned (.int .i64 (chkR root ticks r now)) ∧ Told w g mb q root ticks EE.length w' := by
  obtain ⟨F0, F1⟩ := chkR_facts (root := root) (ticks := ticks) (r := r) (now := now)
  have CL := com_len r
  have hcm : Hid (comR r = macL r.op (joinL [[u8I r.st.f], [u8I r.st.t], r.txt])) := rfl
  have lcm : r.st.cm.length = 32 := ok.2.1
  have okst := ok.2
  obtain ⟨id, whose, txt, op, s⟩ := r
  obtain ⟨lo, oks⟩ := ok
  dsimp only at *
  have SE : Hid (∀ u, Ext w u → SR u g mb q root ticks EE ∧ Gl u tg) := fun u x => ⟨h.ext x, hG.ext x⟩
  have BT : Hid (∀ u u', Ext w u → u.grownBy u' (some mb) → Bs u' A txt.length c txt ∧ Gl u' tg) := fun u u' x y => ⟨(hb.ext x).mapTurn (h.mp.ext x) y, (hG.ext x).grown (h.mp.ext x) y⟩
  have BY : Hid (∀ (W : World), Calls Tryd.prog 43 #[.agg s.C.toArray] W fun e w' => ∃ A n c, e = .returned (.tuple #[.slice A n c, .int .i64 (bytesE s)]) ∧ Own W.heap.size w' A n c (bytesS s) ∧ Ext W w') := fun W => bytes16_calls oks
  have CK : Hid (∀ (W : World), SR W g mb q root ticks EE → Gl W tg → Calls Tryd.prog 40 #[.pointer (some ⟨g, 0, none⟩), .agg s.C.toArray, .int .i64 now] W fun e w' => e = .returned (.int .i64 (chkE root ticks s now)) ∧ Told W g mb q root ticks EE.length w') := fun W k1 k2 => check16_calls k1 hE t1 t2 oks k2
  obtain ⟨BS0, BS1⟩ := bytes_facts (s := s)
  have mbl := h.mp.lt
  have hm : Hid (Mp Tryd.prog 3 w mb EE) := h.mp
  clear h hG hb
  obtain ⟨n, hn'⟩ : ∃ n, n = txt.length := ⟨_, rfl⟩
  rw [← hn'] at CL BT ⊢
  have VB : Hid (∀ (W : World), Calls Tryd.prog 44 #[.agg (rpC id whose A n c op s.C).toArray] W fun e w' => e = .returned (.bool (besideB id whose n)) ∧ Ext W w') := fun W => beside17_calls
  have OB : Hid (∀ (W : World) (z : Int), Calls Tryd.prog 47 #[.int .i64 z] W (RetBs [u8I z] W)) := fun W z => rpByte_calls
  have hv : Hid ((⟨id, whose, txt, op, s⟩ : Rm).right = (besideB id whose n && s.valid)) := by unfold Hid Rm.right; rw [← hn']
  have HM := Lib.hid (fun _ : Unit => rpC_mid id whose A n c op s.C)
  have HO : Hid (∀ _ : Unit, rpC id whose A n c op s.C = [.int .i64 id, .int .i64 whose, .slice A n c] ++ (cellsOf op ++ s.C)) := fun _ => rfl
  have L_p := rp_pre (id := id) (whose := whose) (A := A) (n := n) (c := c) lo
  have c1 : Hid ((rpC id whose A n c op s.C)[1]? = some (.int .i64 whose)) := rfl
  have c2 : Hid ((rpC id whose A n c op s.C)[2]? = some (.slice A n c)) := rfl
  have s1 : Hid (s.C[1]? = some (.int .i64 s.f)) := rfl
  have s2 : Hid (s.C[2]? = some (.int .i64 s.t)) := rfl
  have HC : Hid (∀ _ : Unit, rpC id whose A n c op s.C = (([.int .i64 id, .int .i64 whose, .slice A n c] ++ cellsOf op) ++ [Value.int .i64 s.ep, .int .i64 s.f, .int .i64 s.t, .int .i64 s.tm]) ++ (cellsOf s.cm ++ cellsOf s.tg)) := fun _ => by simp [rpC, Sm.C, stC]
  have L_q : (([Value.int .i64 id, .int .i64 whose, .slice A n c] ++ cellsOf op) ++ [Value.int .i64 s.ep, .int .i64 s.f, .int .i64 s.t, .int .i64 s.tm]).length = 39 := by simp [cellsOf_len, lo]
  have L_s := Sm.C_len oks
  have L_r := rpC_len lo L_s id whose A n c
  have BI := Lib.hid (besideB_iff (id := id) (whose := whose) (n := n))
  rw [hv.out] at F0 F1
  clear hn'
  clear hv
  generalize chkR root ticks ⟨id, whose, txt, op, s⟩ now = RE at *
  generalize comR ⟨id, whose, txt, op, s⟩ = CO at *
  generalize chkE root ticks s now = CE at *
  have S_r : (rpC id whose A n c op s.C).toArray.size = 103 := by rw [List.size_toArray, L_r]
  obtain ⟨L, hL⟩ : ∃ x, x = rpC id whose A n c op s.C := ⟨_, rfl⟩
  rw [← hL] at VB HM HO HC c1 c2 S_r ⊢
  clear hL L_r
  generalize ([Value.int .i64 id, .int .i64 whose, .slice A n c] ++ cellsOf op) ++ [Value.int .i64 s.ep, .int .i64 s.f, .int .i64 s.t, .int .i64 s.tm] = PQ at *
  generalize [Value.int .i64 id, .int .i64 whose, .slice A n c] ++ cellsOf op = PR at *
  generalize s.cm = cm at *
  generalize cellsOf s.tg = TG at *
  obtain ⟨SC, hSC⟩ : ∃ x, x = s.C := ⟨_, rfl⟩
  rw [← hSC] at BY CK HM HO L_s s1 s2
  clear hSC oks okst
  generalize s.valid = va at *
  generalize bytesS s = SB at *
  generalize bytesE s = SE' at *
  generalize s.f = sf at *
  generalize s.t = st at *
  have C_o : (cellsOf op).length = 32 := by rw [cellsOf_len, lo]
  have C_c : (cellsOf cm).length = 32 := by rw [cellsOf_len, lcm]
  obtain ⟨ri, hr⟩ : ∃ x, x = w.heap.size := ⟨_, rfl⟩
  have B0 : Hid (Cb (w.alloc (Obj.cells L.toArray 28)) ri 28 L ∧ Ext w (w.alloc (Obj.cells L.toArray 28))) := by rw [hr]; exact ⟨Cb.new _ _ _, (Ext.refl w).alloc _⟩
  have rmb : ri ≠ mb := by omega
  go_enter Tryd.func21, Tryd.ntmps21
  go_upto_region 1 with fail
  refine wp_gen (fun W => Cb W ri 28 L ∧ Ext w W) B0.out ?_
  rw [← hr]
  clear B0
  replace hr := Lib.hid hr
  rintro w0 ⟨k0, x0⟩
  have b35 : Hid (∀ j v, SC[j]? = some v → w0.cell? ⟨ri, 35 + j, none⟩ = some v) := Lib.hid (k0.mid (HM.out ()) L_p)
  have P0 : Hid (∀ u, Ext w0 u → Cb u ri 28 L ∧ Ext w u) := fun u x => ⟨k0.ext x, x0.trans x⟩
  clear k0 x0
  go_wp2_with (refine wpList_load_mid rfl (g := ri) (off := 35) (ys := SC) rfl rfl b35.out rfl rfl (by rw [L_s]; rfl) ?_; go_frame)
  refine (BY.out _).mono ?_
  rintro e w1 ⟨A1, n1, m1, rfl, _, x1⟩
  have k1 := Lib.hid (P0.out w1 x1).1
  replace x1 := Lib.hid x1
  clear b35 BY
  rcases va with _ | _
  · obtain ⟨_, rfl⟩ := BS0 rfl
    have f1 := F0 (by simp)
    have F := Lib.hid (Told.of_ext (SE.out w1 (P0.out w1 x1.out).2).1 (Nat.le_refl _) (P0.out w1 x1.out).2)
    clear BS1 F1 P0 VB OB CK BT SE
    go_wp2_with fail
    go_ret
    exact ⟨by rw [f1]; rfl, F.out⟩
  obtain ⟨_, rfl⟩ := BS1 rfl
  have P1 : Hid (∀ u, Ext w1 u → Cb u ri 28 L ∧ Ext w u) := fun u x => ⟨(P0.out u (x1.out.trans x)).1, (P0.out u (x1.out.trans x)).2⟩
  clear BS0 P0 x1
  have g1 := k1.out.cell c1.out
  have g37 : w1.cell? ⟨ri, 37, none⟩ = some (.int .i64 st) := k1.out.mid (HM.out ()) L_p 2 _ s2.out
  rcases hbe : besideB id whose n with _ | _
  · rw [hbe] at F0 VB
    have f1 := F0 (by simp)
    clear F0 F1 OB CK BT hbe BI g1 g37
    go_wp2_with (first | ((with_reducible refine wpList_load_rowW (o := ⟨some 19, _, _, _, _, _⟩) ?_ 28 _ rfl ri ?_ 28 L.toArray (0, 0) _ ?_ Tryd.underlying28 ?_ ?_ ?_); (· rfl); (· rfl); (· exact k1.out); (· rfl); (· rw [S_r]; rfl); go_frame))
    refine (VB.out _).mono ?_
    rintro e w2 ⟨rfl, x2⟩
    have F := Lib.hid (Told.of_ext (SE.out w2 (P1.out w2 x2).2).1 (Nat.le_refl _) (P1.out w2 x2).2)
    clear VB P1 SE x2 k1
    go_wp2_with fail
    go_ret
    exact ⟨by rw [f1]; rfl, F.out⟩
  rw [hbe] at F0 F1 VB
  obtain ⟨_, _, n250⟩ := BI.out.1 hbe
  clear BI hbe g1 g37
  go_wp2_with (first | ((with_reducible refine wpList_load_rowW (o := ⟨some 19, _, _, _, _, _⟩) ?_ 28 _ rfl ri ?_ 28 L.toArray (0, 0) _ ?_ Tryd.underlying28 ?_ ?_ ?_); (· rfl); (· rfl); (· exact k1.out); (· rfl); (· rw [S_r]; rfl); go_frame))
  refine (VB.out _).mono ?_
  rintro e w2 ⟨rfl, x2⟩
  have k2 := Lib.hid (P1.out w2 x2).1
  have y2 := Lib.hid (P1.out w2 x2).2
  have g1 := k2.out.cell c1.out
  have g37 : w2.cell? ⟨ri, 37, none⟩ = some (.int .i64 st) := k2.out.mid (HM.out ()) L_p 2 _ s2.out
  clear VB P1 x2 k1
  by_cases hw : ¬ (whose = st)
  · have f1 := F0 (by rw [decide_eq_false hw]; rfl)
    have u1 : (whose == st) = false := by simpa using hw
    have u2 : (whose != st) = true := by simpa using hw
    have F := Lib.hid (Told.of_ext (SE.out w2 y2.out).1 (Nat.le_refl _) y2.out)
    clear F0 F1 OB CK BT SE
    go_wp2_with fail
    go_ret
    exact ⟨by rw [f1]; rfl, F.out⟩
  obtain rfl : whose = st := Classical.not_not.1 hw
  have u1 : (whose == whose) = true := by simp
  have u2 : (whose != whose) = false := by simp
  obtain ⟨F2, F3⟩ := F1 (by simp)
  replace F2 := Lib.hid F2
  replace F3 := Lib.hid F3
  clear F0 hw F1
  go_upto_region 4 with fail
  clear u1 u2 g1 g37
  have b35 : Hid (∀ j v, SC[j]? = some v → w2.cell? ⟨ri, 35 + j, none⟩ = some v) := Lib.hid (k2.out.mid (HM.out ()) L_p)
  have CK2 := Lib.hid (CK.out w2 (SE.out w2 y2.out).1 (SE.out w2 y2.out).2)
  clear CK
  go_wp2_with (refine wpList_load_mid rfl (g := ri) (off := 35) (ys := SC) rfl rfl b35.out rfl rfl (by rw [L_s]; rfl) ?_; go_frame)
  refine CK2.out.mono ?_
  rintro e w3 ⟨rfl, ⟨E3, s3, e3⟩, gr3⟩
  have k3 : Cb w3 ri 28 L := (gr3.block _ k2.out.lt (fun z => rmb (Option.some.inj z))).trans k2.out
  obtain ⟨B3, G3⟩ := BT.out w2 w3 y2.out gr3
  have wri : w.heap.size ≤ w2.heap.size := y2.out.size
  have TW : Hid (∀ u, Ext w3 u → Told w g mb q root ticks EE.length u) := fun u x => ⟨⟨E3, s3.ext x, e3⟩, grown_trans' (grown_ofE16 y2.out) (grown_trans' gr3 (grown_ofE16 x))⟩
  replace k3 := Lib.hid k3
  replace B3 := Lib.hid B3
  replace G3 := Lib.hid G3
  clear CK2 b35 k2 y2 SE BT s3 e3 gr3
  by_cases hce : ¬ (CE = 0)
  · have f1 := Lib.hid (F2.out hce)
    have u1 : (CE == 0) = false := by simpa using hce
    have F := Lib.hid (TW.out w3 (Ext.refl _))
    clear F2 F3 OB TW
    go_wp2_with fail
    go_ret
    exact ⟨by rw [f1.out]; rfl, F.out⟩
  obtain rfl : CE = 0 := Classical.not_not.1 hce
  obtain ⟨b, hbb⟩ : ∃ b, (!decide (CO = cm)) = b := ⟨_, rfl⟩
  obtain ⟨ER, hER⟩ : ∃ x : Int, x = if b then 4 else 0 := ⟨_, rfl⟩
  have f1 : Hid (RE = ER) := Lib.hid (by rw [hER]; exact F3.out rfl b hbb)
  rw [hcm.out] at hbb
  have CC : Hid (∀ (W : World) (C : Option Addr), Gl W tg → Rw W C 3 3 [[u8I sf], [u8I whose], txt] → Calls Tryd.prog 62 #[.agg (cellsOf cm).toArray, .agg (cellsOf op).toArray, .slice C 3 3] W fun e w' => e = .returned (.int .i64 ER) ∧ Ext W w') := fun W C k r => by rw [hER]; exact check14_calls lo lcm hbb r (CL n250) k
  clear F2 F3 hce hbb hcm CL hER
  go_upto_region 7 with fail
  have P3 : Hid (∀ u, Ext w3 u → Cb u ri 28 L ∧ Bs u A n c txt ∧ Gl u tg) := fun u x => ⟨k3.out.ext x, B3.out.ext x, G3.out.ext x⟩
  have Q3 : Hid (∀ u, Ext w3 u → u.cell? ⟨ri, 2, none⟩ = some (.slice A n c) ∧ u.cell? ⟨ri, 36, none⟩ = some (.int .i64 sf) ∧ u.cell? ⟨ri, 37, none⟩ = some (.int .i64 whose)) := fun u x => ⟨(k3.out.ext x).cell c2.out, (k3.out.ext x).mid (HM.out ()) L_p 1 _ s1.out, (k3.out.ext x).mid (HM.out ()) L_p 2 _ s2.out⟩
  clear k3 B3 G3
  refine qgE [0, 1, 2, 3, 4, 5, 6, 7, 9, 10, 11, 13, 14, 8, 12, 15, 16, 17] [8, 12, 15, 16] ?_
  have e0 : Hid (Ext w3 w3.drew) := (Ext.refl w3).drew
  generalize w3.drew = W at *
  iterate 2 ((first | refine qR0 ?_ | refine qS ?_); go_frame)
  refine qV rfl (fun w' => ∀ q_ v, (cellsOf cm)[q_]? = some v → w'.cell? ⟨ri, 39 + q_, none⟩ = some v) (fun w' e => (P3.out w' (e0.out.trans e)).1.mid (HC.out ()) L_q) (.agg (cellsOf cm).toArray) (fun w' hF => exec_load_mid rfl rfl hF rfl rfl (by rw [C_c]; rfl)) ?_
  go_frame
  iterate 1 ((first | refine qR0 ?_ | refine qS ?_); go_frame)
  refine qV rfl (fun w' => ∀ q_ v, (cellsOf op)[q_]? = some v → w'.cell? ⟨ri, 3 + q_, none⟩ = some v) (fun w' e => (P3.out w' (e0.out.trans e)).1.mid (HO.out ()) rfl) (.agg (cellsOf op).toArray) (fun w' hF => exec_load_mid rfl rfl hF rfl rfl (by rw [C_o]; rfl)) ?_
  go_frame
  repeat ((first | refine qR _ (fun w' e => And.intro (Q3.out w' (e0.out.trans e)).1 (And.intro (Q3.out w' (e0.out.trans e)).2.1 (Q3.out w' (e0.out.trans e)).2.2)) ?_ | refine qS ?_); go_frame)
  refine qD fun K1 hK1 => ?_
  go_simp
  refine (OB.out _ _).mono ?_
  rintro e w4 ⟨A4, n4, c4, rfl, b4, x4⟩
  obtain rfl : n4 = 1 := b4.len.symm
  refine hK1.out _ _ x4 ?_
  clear hK1 K1
  try go_frame
  refine qD fun K2 hK2 => ?_
  go_simp
  refine (OB.out _ _).mono ?_
  rintro e w5 ⟨A5, n5, c5, rfl, b5, x5⟩
  obtain rfl : n5 = 1 := b5.len.symm
  refine hK2.out _ _ x5 ?_
  clear hK2 K2
  try go_frame
  have e5 := Lib.hid (e0.out.trans (x4.trans x5))
  have hR := Lib.hid (rw_lit3 (t := 22) (b4.ext x5) b5 (P3.out w5 e5.out).2.1)
  have G5 := Lib.hid (P3.out _ (e5.out.trans ((Ext.refl w5).alloc (.cells #[.slice A4 1 c4, .slice A5 1 c5, .slice A n c] 22)))).2.2
  clear b4 b5 x4 x5
  refine qD fun K3 hK3 => ?_
  go_simp
  refine hK3.out _ _ ((Ext.refl w5).alloc _) ?_
  clear hK3 K3
  try go_frame
  refine qD fun K4 hK4 => ?_
  go_simp
  refine (CC.out _ _ G5.out hR.out).mono ?_
  rintro e w6 ⟨rfl, x6⟩
  refine hK4.out _ _ x6 ?_
  clear hK4 K4
  try go_frame
  repeat ((first | refine qR0 ?_ | refine qS ?_); go_frame)
  refine seq_done ?_
  have F := Lib.hid (TW.out _ (e5.out.trans (((Ext.refl w5).alloc _).trans x6)))
  clear x6 hR e5 e0 P3 Q3 OB CC TW G5
  go_wp2_with fail
  go_ret
  exact ⟨by rw [f1.out]; rfl, F.out⟩
end Go.Proofs.YtmnohmhhmaeljaaDoor
