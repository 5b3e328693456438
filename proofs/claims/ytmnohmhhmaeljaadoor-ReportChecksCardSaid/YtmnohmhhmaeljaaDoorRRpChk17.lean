import Derived.Test.YtmnohmhhmaeljaaDoorRpCheck17
import Derived.Test.YtmnohmhhmaeljaaDoorRCheck16
import Derived.Test.YtmnohmhhmaeljaaDoorRStamp16
import Derived.Test.YtmnohmhhmaeljaaDoorPkB
import Derived.Test.YtmnohmhhmaeljaaDoorPkG
import Derived.Test.YtmnohmhhmaeljaaDoorFree
/-
  The document's Check of a report, and Made.
-/
namespace Go.Proofs.YtmnohmhhmaeljaaDoor
open Go.ChangeShapes Go.WideShapes Go.ChangeAt Go.RowKit Go.Deep Go.Maps
set_option maxRecDepth 100000

set_option maxHeartbeats 16000000 in
theorem rcheck17_calls {w : World} {ticks : Nat} {root : List UInt8} (lr : root.length = 32) (t1 : 1 ≤ ticks) (t2 : ticks ≤ 1000000) {r : Rm} {A : Option Addr} {c : Nat} (ok : r.ok) (hb : Bs w A r.txt.length c r.txt) {now : Int} :
    Calls Tryd.prog 22 #[.agg (cellsOf root).toArray, .int .i64 (ticks : Int), .agg (rpC r.id r.whose A r.txt.length c r.op r.st.C).toArray, .int .i64 now] w fun e w' => e = .returned (.int .i64 (chkR root ticks r now)) ∧ Ext w w' := by
  obtain ⟨F0, F1⟩ := chkR_facts (root := root) (ticks := ticks) (r := r) (now := now)
  have CL := com_len r
  have CL2 : r.txt.length ≤ 250 → (joinL [[u8I r.st.f], [u8I r.st.t], r.txt]).length ≤ 1000000 := fun h => by simp [joinL, row4_len]; omega
  have hcm : Hid (comR r = macL r.op (joinL [[u8I r.st.f], [u8I r.st.t], r.txt])) := rfl
  have lcm : r.st.cm.length = 32 := ok.2.1
  have lco : (comR r).length = 32 := macL_len _ _
  obtain ⟨id, whose, txt, op, s⟩ := r
  obtain ⟨lo, oks⟩ := ok
  dsimp only at *
  have CK : Hid (∀ (W : World), Calls Tryd.prog 63 #[.agg (cellsOf root).toArray, .int .i64 (ticks : Int), .agg s.C.toArray, .int .i64 now] W fun e w' => e = .returned (.int .i64 (chkE root ticks s now)) ∧ Ext W w') := fun W => rcheck16_calls lr t1 t2 oks
  obtain ⟨n, hn'⟩ : ∃ n, n = txt.length := ⟨_, rfl⟩
  rw [← hn'] at CL CL2 hb ⊢
  have VB : Hid (∀ (W : World), Calls Tryd.prog 48 #[.agg (rpC id whose A n c op s.C).toArray] W fun e w' => e = .returned (.bool (besideB id whose n && s.valid)) ∧ Ext W w') := fun W => right17_calls lo oks
  have hv : Hid ((⟨id, whose, txt, op, s⟩ : Rm).right = (besideB id whose n && s.valid)) := by unfold Hid Rm.right; rw [← hn']
  have HM := Lib.hid (fun _ : Unit => rpC_mid id whose A n c op s.C)
  have HO : Hid (∀ _ : Unit, rpC id whose A n c op s.C = [.int .i64 id, .int .i64 whose, .slice A n c] ++ (cellsOf op ++ s.C)) := fun _ => rfl
  have L_p := rp_pre (id := id) (whose := whose) (A := A) (n := n) (c := c) lo
  have c1 : Hid ((rpC id whose A n c op s.C)[1]? = some (.int .i64 whose)) := rfl
  have c2 : Hid ((rpC id whose A n c op s.C)[2]? = some (.slice A n c)) := rfl
  have s1 : Hid (s.C[1]? = some (.int .i64 s.f)) := rfl
  have s2 : Hid (s.C[2]? = some (.int .i64 s.t)) := rfl
  have SC4 : Hid (∀ _ : Unit, s.C = [.int .i64 s.ep, .int .i64 s.f, .int .i64 s.t, .int .i64 s.tm] ++ (cellsOf s.cm ++ cellsOf s.tg)) := fun _ => rfl
  have L_s := Sm.C_len oks
  have L_r := rpC_len lo L_s id whose A n c
  have BI := Lib.hid (besideB_iff (id := id) (whose := whose) (n := n))
  have O_s : s.C.toArray.all (·.oneCell') = true := one_cells s.one
  rw [hv.out] at F0 F1
  clear hv hn'
  generalize chkR root ticks ⟨id, whose, txt, op, s⟩ now = RE at *
  generalize comR ⟨id, whose, txt, op, s⟩ = CO at *
  generalize chkE root ticks s now = CE at *
  have S_r : (rpC id whose A n c op s.C).toArray.size = 103 := by rw [List.size_toArray, L_r]
  obtain ⟨L, hL⟩ : ∃ x, x = rpC id whose A n c op s.C := ⟨_, rfl⟩
  rw [← hL] at VB HM HO c1 c2 S_r ⊢
  clear hL L_r
  have MK : Hid (∀ (W : World) (C : Option Addr) (c : Nat), n ≤ 250 → Rw W C 3 c [[u8I s.f], [u8I s.t], txt] → Calls Tryd.prog 64 #[.agg (cellsOf op).toArray, .slice C 3 c] W fun e w' => e = .returned (.agg (cellsOf CO).toArray) ∧ Ext W w') := fun W C c h r => by rw [hcm.out]; exact make14_calls lo r (CL2 h)
  generalize [Value.int .i64 id, .int .i64 whose, .slice A n c] ++ cellsOf op = PR at *
  generalize s.cm = cm at *
  generalize cellsOf s.tg = TG at *
  generalize s.ep = sep at *
  generalize s.tm = stm at *
  obtain ⟨SC, hSC⟩ : ∃ x, x = s.C := ⟨_, rfl⟩
  rw [← hSC] at CK HM HO L_s s1 s2 SC4 O_s
  clear hSC oks CL CL2 hcm
  have S_s : SC.toArray.size = 68 := by rw [List.size_toArray, L_s]
  have hal := stamp_alloc16
  have L_Z := Sm.C_len zSm_ok
  generalize zSm.C = ZS at *
  have S_Z : ZS.toArray.size = 68 := by rw [List.size_toArray, L_Z]
  clear L_Z
  generalize s.valid = va at *
  generalize s.f = sf at *
  generalize s.t = st at *
  have C_o : (cellsOf op).length = 32 := by rw [cellsOf_len, lo]
  have C_c : (cellsOf cm).length = 32 := by rw [cellsOf_len, lcm]
  have S_k : (cellsOf root).toArray.size = 32 := by simp [cellsOf_len, lr]
  obtain ⟨rk, hr⟩ : ∃ x, x = w.heap.size := ⟨_, rfl⟩
  have B0 : Hid (Cb ((w.alloc (Obj.cells (cellsOf root).toArray 24)).alloc (Obj.cells L.toArray 28)) rk 24 (cellsOf root) ∧ Cb ((w.alloc (Obj.cells (cellsOf root).toArray 24)).alloc (Obj.cells L.toArray 28)) (rk + 1) 28 L ∧ Ext w ((w.alloc (Obj.cells (cellsOf root).toArray 24)).alloc (Obj.cells L.toArray 28))) := by rw [hr]; exact ⟨heap_alloc1 _ _ _, heap_alloc2 _ _ _, ((Ext.refl w).alloc _).alloc _⟩
  obtain ⟨ri, hri⟩ : ∃ x, x = rk + 1 := ⟨_, rfl⟩
  rw [← hri] at B0
  go_enter Tryd.func22, Tryd.ntmps22
  go_upto_region 1 with fail
  refine wp_gen (fun W => Cb W rk 24 (cellsOf root) ∧ Cb W ri 28 L ∧ Ext w W) B0.out ?_
  rw [← hr, ← hri]
  clear B0
  replace hr := Lib.hid hr
  replace hri := Lib.hid hri
  rintro w0 ⟨kk, k0, x0⟩
  have b35 : Hid (∀ j v, SC[j]? = some v → w0.cell? ⟨ri, 35 + j, none⟩ = some v) := Lib.hid (k0.mid (HM.out ()) L_p)
  have P0 : Hid (∀ u, Ext w0 u → Cb u rk 24 (cellsOf root) ∧ Cb u ri 28 L ∧ Bs u A n c txt ∧ Ext w u) := fun u x => ⟨kk.ext x, k0.ext x, hb.ext (x0.trans x), x0.trans x⟩
  have B9 : Hid (Cb ((w0.alloc (.cells ZS.toArray 26)).setRow w0.heap.size SC.toArray) w0.heap.size 26 SC ∧ Ext w0 ((w0.alloc (.cells ZS.toArray 26)).setRow w0.heap.size SC.toArray)) := ⟨Cb.set (Cb.new _ _ _), Ext.newRow _ _ _⟩
  clear kk k0 x0 hb
  go_upto_region 2 with (first
    | (refine wpList_load_mid rfl (g := ri) (off := 35) (ys := SC) rfl rfl b35.out rfl rfl (by rw [L_s]; rfl) ?_; go_frame)
    | (refine wpList_store_row rfl 26 _ _ rfl w0.heap.size SC.toArray rfl rfl 26 ZS.toArray (heap_alloc_new _ _) (by rw [S_s]; rfl) (by rw [S_s, S_Z]) O_s ?_; simp only [Act.put]))
  refine wp_gen (fun W => Cb W w0.heap.size 26 SC ∧ Ext w0 W) B9.out ?_
  generalize w0.heap.size = g9 at *
  clear B9 b35 hal
  rintro w1 ⟨k9, x1⟩
  have P1 : Hid (∀ u, Ext w1 u → Cb u rk 24 (cellsOf root) ∧ Cb u ri 28 L ∧ Cb u g9 26 SC ∧ Bs u A n c txt ∧ Ext w u) := fun u x => ⟨(P0.out u (x1.trans x)).1, (P0.out u (x1.trans x)).2.1, k9.ext x, (P0.out u (x1.trans x)).2.2.1, (P0.out u (x1.trans x)).2.2.2⟩
  clear P0 k9 x1
  have k1 := Lib.hid (P1.out w1 (Ext.refl _)).2.1
  have VB1 := Lib.hid (VB.out w1)
  clear VB
  rcases hbe : (besideB id whose n && va) with _ | _
  · rw [hbe] at F0 VB1
    have f1 := F0 rfl
    clear F0 F1 CK MK hbe BI
    go_wp2_with (first | ((with_reducible refine wpList_load_rowW (o := ⟨some 13, _, _, _, _, _⟩) ?_ 28 _ rfl ri ?_ 28 L.toArray (0, 0) _ ?_ Tryd.underlying28 ?_ ?_ ?_); (· rfl); (· rfl); (· exact k1.out); (· rfl); (· rw [S_r]; rfl); go_frame))
    refine VB1.out.mono ?_
    rintro e w2 ⟨rfl, x2⟩
    have F := Lib.hid (P1.out w2 x2).2.2.2.2
    clear VB1 P1 x2 k1
    go_wp2_with fail
    go_ret
    exact ⟨by rw [f1]; rfl, F.out⟩
  rw [hbe] at F0 F1 VB1
  obtain ⟨hb1, rfl⟩ : besideB id whose n = true ∧ va = true := by simpa only [Bool.and_eq_true] using hbe
  obtain ⟨_, _, n250⟩ := BI.out.1 hb1
  clear BI hbe hb1
  go_wp2_with (first | ((with_reducible refine wpList_load_rowW (o := ⟨some 13, _, _, _, _, _⟩) ?_ 28 _ rfl ri ?_ 28 L.toArray (0, 0) _ ?_ Tryd.underlying28 ?_ ?_ ?_); (· rfl); (· rfl); (· exact k1.out); (· rfl); (· rw [S_r]; rfl); go_frame))
  refine VB1.out.mono ?_
  rintro e w2 ⟨rfl, x2⟩
  obtain ⟨p1, p2, p3, _, p5⟩ := P1.out w2 x2
  have g1 := p2.cell c1.out
  have g2 := p3.cell s2.out
  replace x2 := Lib.hid x2
  replace p1 := Lib.hid p1
  replace p3 := Lib.hid p3
  replace p5 := Lib.hid p5
  clear VB1 k1 p2
  by_cases hw : ¬ (whose = st)
  · have f1 := F0 (by rw [decide_eq_false hw]; rfl)
    have u1 : (whose == st) = false := beq_false_of_ne hw
    clear F0 F1 CK MK P1 p1 p3
    go_wp2_with fail
    go_ret
    exact ⟨by rw [f1]; rfl, p5.out⟩
  obtain rfl : whose = st := Classical.not_not.1 hw
  have u1 : (whose == whose) = true := beq_self_eq_true _
  obtain ⟨F2, F3⟩ := F1 (by simp)
  replace F2 := Lib.hid F2
  replace F3 := Lib.hid F3
  have CK2 := Lib.hid (CK.out w2)
  clear F0 hw F1 CK p5
  go_upto_region 4 with fail
  clear u1 g1 g2
  go_wp2_with (first
    | ((with_reducible refine wpList_load_rowW (o := ⟨some 23, _, _, _, _, _⟩) ?_ 24 _ rfl rk ?_ 24 (cellsOf root).toArray (0, 0) _ ?_ Tryd.underlying24 ?_ ?_ ?_); (· rfl); (· rfl); (· exact p1.out); (· rfl); (· rw [S_k]; rfl); go_frame)
    | ((with_reducible refine wpList_load_rowW (o := ⟨some 25, _, _, _, _, _⟩) ?_ 26 _ rfl g9 ?_ 26 SC.toArray (0, 0) _ ?_ Tryd.underlying26 ?_ ?_ ?_); (· rfl); (· rfl); (· exact p3.out); (· rfl); (· rw [S_s]; rfl); go_frame))
  refine CK2.out.mono ?_
  rintro e w3 ⟨rfl, x3⟩
  have P3 : Hid (∀ u, Ext w3 u → Cb u ri 28 L ∧ Cb u g9 26 SC ∧ Bs u A n c txt ∧ Ext w u) := fun u x => (P1.out u (x2.out.trans (x3.trans x))).2
  clear P1 CK2 x2 x3 p1 p3
  by_cases hce : ¬ (CE = 0)
  · have f1 := Lib.hid (F2.out hce)
    have u1 : (CE == 0) = false := by simpa using hce
    have F := Lib.hid (P3.out w3 (Ext.refl _)).2.2.2
    clear F2 F3 MK P3
    go_wp2_with fail
    go_ret
    exact ⟨by rw [f1.out]; rfl, F.out⟩
  obtain rfl : CE = 0 := Classical.not_not.1 hce
  obtain ⟨b, hbb⟩ : ∃ b, (!decide (CO = cm)) = b := ⟨_, rfl⟩
  have f1 := Lib.hid (F3.out rfl b hbb)
  replace hbb := Lib.hid hbb
  clear F2 F3 hce
  go_upto_region 7 with fail
  have Q3 : Hid (∀ u, Ext w3 u → u.cell? ⟨ri, 2, none⟩ = some (.slice A n c) ∧ u.cell? ⟨g9, 1, none⟩ = some (.int .i64 sf) ∧ u.cell? ⟨g9, 2, none⟩ = some (.int .i64 whose)) := fun u x => ⟨(P3.out u x).1.cell c2.out, (P3.out u x).2.1.cell s1.out, (P3.out u x).2.1.cell s2.out⟩
  have U1 := u8I_wrap sf
  have U2 := u8I_wrap whose
  generalize u8I sf = y1 at *
  generalize u8I whose = y2 at *
  refine qgF (R := Ext) Ext.refl (fun _ _ _ => Ext.trans) [0, 1, 2, 3, 4, 5, 6, 7, 8, 9, 10, 11, 12, 13, 14, 15, 16] [] [0, 1, 0, 4, 12, 28, 0, 64, 192, 448, 0, 1024, 4092, 8191, 0, 16384, 65535] [true, true, true, true, true, true, true, true, true, true, true, true, true, true, true, true, true] ?_
  refine free_det (fun _ => Ext.refl _) _ rfl (v := ?_) (d := 32) rfl rfl ?_ ?_
  rotate_left
  · intro a_ w_ hev hR hk
    have e6 : a_.eval (.tmp 6) = _ := hk 6 rfl
    clear hk
    generalize a_.eval = ev at *
    obtain ⟨hev1, hev2, hev3⟩ := hev
    go_simp
    (try with_reducible rfl)
  refine free_det (fun _ => Ext.refl _) _ rfl (v := .agg (cellsOf op).toArray) (d := 33) rfl rfl ?_ ?_
  · intro a_ w_ hev hR hk
    have e31 : a_.eval (.tmp 31) = _ := hk 31 rfl
    exact exec_load_mid rfl e31 ((P3.out w_ ((Ext.refl _).drew.trans hR)).1.mid (HO.out ()) rfl) rfl rfl (by rw [C_o]; rfl)
  refine free_det (fun _ => Ext.refl _) _ rfl (v := ?_) (d := 34) rfl rfl ?_ ?_
  rotate_left
  · intro a_ w_ hev hR hk
    have e9 : a_.eval (.tmp 9) = _ := hk 9 rfl
    clear hk
    generalize a_.eval = ev at *
    obtain ⟨hev1, hev2, hev3⟩ := hev
    go_simp
    (try with_reducible rfl)
  refine free_det (fun _ => Ext.refl _) _ rfl (v := ?_) (d := 35) rfl rfl ?_ ?_
  rotate_left
  · intro a_ w_ hev hR hk
    have e33 : a_.eval (.tmp 33) = _ := hk 33 rfl
    clear hk
    have hF := ((Q3.out w_ ((Ext.refl _).drew.trans hR)).2.1)
    generalize a_.eval = ev at *
    obtain ⟨hev1, hev2, hev3⟩ := hev
    go_simp
    (try with_reducible rfl)
  refine free_det (fun _ => Ext.refl _) _ rfl (v := ?_) (d := 36) rfl rfl ?_ ?_
  rotate_left
  · intro a_ w_ hev hR hk
    have e34 : a_.eval (.tmp 34) = _ := hk 34 rfl
    clear hk
    generalize a_.eval = ev at *
    obtain ⟨hev1, hev2, hev3⟩ := hev
    go_simp
    (try with_reducible rfl)
  refine free_step _ rfl (fun u w_ => ∃ A n c, u = .slice A n c ∧ Bs w_ A n c [y1]) (d := 37) rfl (fun _ _ _ h e => by obtain ⟨A, n, c, h1, h2⟩ := h; exact ⟨A, n, c, h1, h2.ext e⟩) rfl ?_ ?_
  · intro a_ w_ hev hR hk K1 hK1
    have e35 : a_.eval (.tmp 35) = _ := hk 35 rfl
    have f35 := ev_get.trans e35
    go_simp
    exact hK1.out _ _ ((Ext.refl _).alloc _) ⟨_, _, _, rfl, Bs.one8 _ _ y1 _ rfl⟩
  refine free_det (fun _ => Ext.refl _) _ rfl (v := ?_) (d := 38) rfl rfl ?_ ?_
  rotate_left
  · intro a_ w_ hev hR hk
    have e9 : a_.eval (.tmp 9) = _ := hk 9 rfl
    clear hk
    generalize a_.eval = ev at *
    obtain ⟨hev1, hev2, hev3⟩ := hev
    go_simp
    (try with_reducible rfl)
  refine free_det (fun _ => Ext.refl _) _ rfl (v := ?_) (d := 39) rfl rfl ?_ ?_
  rotate_left
  · intro a_ w_ hev hR hk
    have e37 : a_.eval (.tmp 37) = _ := hk 37 rfl
    clear hk
    have hF := ((Q3.out w_ ((Ext.refl _).drew.trans hR)).2.2)
    generalize a_.eval = ev at *
    obtain ⟨hev1, hev2, hev3⟩ := hev
    go_simp
    (try with_reducible rfl)
  refine free_det (fun _ => Ext.refl _) _ rfl (v := ?_) (d := 40) rfl rfl ?_ ?_
  rotate_left
  · intro a_ w_ hev hR hk
    have e38 : a_.eval (.tmp 38) = _ := hk 38 rfl
    clear hk
    generalize a_.eval = ev at *
    obtain ⟨hev1, hev2, hev3⟩ := hev
    go_simp
    (try with_reducible rfl)
  refine free_step _ rfl (fun u w_ => ∃ A n c, u = .slice A n c ∧ Bs w_ A n c [y2]) (d := 41) rfl (fun _ _ _ h e => by obtain ⟨A, n, c, h1, h2⟩ := h; exact ⟨A, n, c, h1, h2.ext e⟩) rfl ?_ ?_
  · intro a_ w_ hev hR hk K1 hK1
    have e39 : a_.eval (.tmp 39) = _ := hk 39 rfl
    have f39 := ev_get.trans e39
    go_simp
    exact hK1.out _ _ ((Ext.refl _).alloc _) ⟨_, _, _, rfl, Bs.one8 _ _ y2 _ rfl⟩
  refine free_det (fun _ => Ext.refl _) _ rfl (v := ?_) (d := 42) rfl rfl ?_ ?_
  rotate_left
  · intro a_ w_ hev hR hk
    have e6 : a_.eval (.tmp 6) = _ := hk 6 rfl
    clear hk
    generalize a_.eval = ev at *
    obtain ⟨hev1, hev2, hev3⟩ := hev
    go_simp
    (try with_reducible rfl)
  refine free_det (fun _ => Ext.refl _) _ rfl (v := ?_) (d := 43) rfl rfl ?_ ?_
  rotate_left
  · intro a_ w_ hev hR hk
    have e41 : a_.eval (.tmp 41) = _ := hk 41 rfl
    clear hk
    have hF := ((Q3.out w_ ((Ext.refl _).drew.trans hR)).1)
    generalize a_.eval = ev at *
    obtain ⟨hev1, hev2, hev3⟩ := hev
    go_simp
    (try with_reducible rfl)
  refine free_step _ rfl (fun u w_ => ∃ g, u = .slice (some ⟨g, 0, none⟩) 3 3 ∧ Rw w_ (some ⟨g, 0, none⟩) 3 3 [[y1], [y2], txt]) (d := 44) rfl (fun _ _ _ h e => by obtain ⟨g, h1, h2⟩ := h; exact ⟨g, h1, h2.ext e⟩) rfl ?_ ?_
  · intro a_ w_ hev hR hk K1 hK1
    obtain ⟨A36, n36, c36, e36, b36⟩ : ∃ A n c, a_.eval (.tmp 36) = .slice A n c ∧ Bs w_ A n c [y1] := hk 36 rfl
    obtain ⟨A40, n40, c40, e40, b40⟩ : ∃ A n c, a_.eval (.tmp 40) = .slice A n c ∧ Bs w_ A n c [y2] := hk 40 rfl
    have e42 : a_.eval (.tmp 42) = _ := hk 42 rfl
    have f36 := ev_get.trans e36
    have f40 := ev_get.trans e40
    have f42 := ev_get.trans e42
    have p3 := P3.out w_ ((Ext.refl _).drew.trans hR)
    go_simp
    exact hK1.out _ _ ((Ext.refl _).alloc _) ⟨_, rfl, rw_lit3 b36 b40 p3.2.2.1⟩
  refine free_step _ rfl (fun u _ => u = .agg (cellsOf CO).toArray) (d := 45) rfl (fun _ _ _ h _ => h) rfl ?_ ?_
  · intro a_ w_ hev hR hk K1 hK1
    obtain ⟨g43, e43, r43⟩ : ∃ g, a_.eval (.tmp 43) = .slice (some ⟨g, 0, none⟩) 3 3 ∧ Rw w_ (some ⟨g, 0, none⟩) 3 3 [[y1], [y2], txt] := hk 43 rfl
    have e32 : a_.eval (.tmp 32) = _ := hk 32 rfl
    have f43 := ev_get.trans e43
    have f32 := ev_get.trans e32
    go_simp
    refine (MK.out _ _ _ n250 r43).mono ?_
    rintro e_ w2_ ⟨rfl, x_⟩
    exact hK1.out _ _ x_ rfl
  refine free_det (fun _ => Ext.refl _) _ rfl (v := ?_) (d := 46) rfl rfl ?_ ?_
  rotate_left
  · intro a_ w_ hev hR hk
    have e9 : a_.eval (.tmp 9) = _ := hk 9 rfl
    clear hk
    generalize a_.eval = ev at *
    obtain ⟨hev1, hev2, hev3⟩ := hev
    go_simp
    (try with_reducible rfl)
  refine free_det (fun _ => Ext.refl _) _ rfl (v := .agg (cellsOf cm).toArray) (d := 47) rfl rfl ?_ ?_
  · intro a_ w_ hev hR hk
    have e45 : a_.eval (.tmp 45) = _ := hk 45 rfl
    exact exec_load_mid rfl e45 ((P3.out w_ ((Ext.refl _).drew.trans hR)).2.1.mid (SC4.out ()) rfl) rfl rfl (by rw [C_c]; rfl)
  refine free_det (fun _ => Ext.refl _) _ rfl (v := .bool b) (d := 48) rfl rfl ?_ ?_
  · intro a_ w_ hev hR hk
    have e44 : a_.eval (.tmp 44) = _ := hk 44 rfl
    have e46 : a_.eval (.tmp 46) = _ := hk 46 rfl
    exact exec_neq_keyB hbb.out lco lcm rfl e44 e46
  intro v_ w5 hR hV_ hN_
  obtain ⟨hv16, hv15, hv14, hv13, hv12, hv11, hv10, hv9, hv8, hv7, hv6, hv5, hv4, hv3, hv2, hv1, hv0, _⟩ := hV_
  replace hv0 : v_ 0 = _ := hv0
  replace hv1 : v_ 1 = _ := hv1
  replace hv2 : v_ 2 = _ := hv2
  replace hv3 : v_ 3 = _ := hv3
  replace hv4 : v_ 4 = _ := hv4
  skip
  replace hv6 : v_ 6 = _ := hv6
  replace hv7 : v_ 7 = _ := hv7
  replace hv8 : v_ 8 = _ := hv8
  skip
  replace hv10 : v_ 10 = _ := hv10
  replace hv11 : v_ 11 = _ := hv11
  skip
  replace hv13 : v_ 13 = _ := hv13
  replace hv14 : v_ 14 = _ := hv14
  replace hv15 : v_ 15 = _ := hv15
  replace hv16 : v_ 16 = _ := hv16
  dsimp only [putE, dOpt]
  obtain ⟨A_5, n_5, c_5, hv5, hb5⟩ := hv5
  obtain ⟨A_9, n_9, c_9, hv9, hb9⟩ := hv9
  obtain ⟨g_12, hv12, hb12⟩ := hv12
  clear hN_
  rw [hv0, hv1, hv2, hv3, hv4, hv5, hv6, hv7, hv8, hv9, hv10, hv11, hv12, hv13, hv14, hv15, hv16]
  go_frame
  clear hv0 hv1 hv2 hv3 hv4 hv5 hv6 hv7 hv8 hv9 hv10 hv11 hv12 hv13 hv14 hv15 hv16
  have F := Lib.hid (P3.out w5 ((Ext.refl _).drew.trans hR)).2.2.2
  clear hR hb12 hb9 hb5
  refine any_nil (by kernel_rfl) ?_
  cases b
  · go_wp2_with fail
    go_ret
    exact ⟨by rw [f1.out]; rfl, F.out⟩
  · go_wp2_with fail
    go_ret
    exact ⟨by rw [f1.out]; rfl, F.out⟩
end Go.Proofs.YtmnohmhhmaeljaaDoor
