import Derived.Test.YtmnohmhhmaeljaaDoorPkJ
import Derived.Test.YtmnohmhhmaeljaaDoorPkH
import Derived.Test.YtmnohmhhmaeljaaDoorPkC
import Derived.Test.YtmnohmhhmaeljaaDoorFree
/-
  The document's Bytes, Same, Check, Made of reports.
-/
namespace Go.Proofs.YtmnohmhhmaeljaaDoor
open Go.ChangeShapes Go.WideShapes Go.ChangeAt Go.RowKit Go.Deep
set_option maxRecDepth 100000

set_option maxHeartbeats 8000000 in
theorem rbytes17_calls {w : World} {r : Rm} {A : Option Addr} {c : Nat} (ok : r.ok) (hb : Bs w A r.txt.length c r.txt) (hn : r.txt.length ≤ 1000000) :
    Calls Tryd.prog 16 #[.agg (rpC r.id r.whose A r.txt.length c r.op r.st.C).toArray] w (RetBsE (bytesRp r) (bytesRpE r) w) := by
  obtain ⟨F0, F1⟩ := bytesRp_facts (r := r)
  have JL := rows_len ok
  obtain ⟨id, whose, txt, op, s⟩ := r
  obtain ⟨lo, oks⟩ := ok
  dsimp only at *
  have BY : Hid (∀ (W : World), Calls Tryd.prog 49 #[.agg s.C.toArray] W fun e w' => ∃ A n c, e = .returned (.tuple #[.slice A n c, .int .i64 (bytesE s)]) ∧ Own W.heap.size w' A n c (bytesS s) ∧ Ext W w') := fun W => rbytes16_calls oks
  obtain ⟨BS0, BS1⟩ := bytes_facts (s := s)
  generalize hn' : txt.length = n at *
  have VB : Hid (∀ (W : World), Calls Tryd.prog 48 #[.agg (rpC id whose A n c op s.C).toArray] W fun e w' => e = .returned (.bool (besideB id whose n && s.valid)) ∧ Ext W w') := fun W => right17_calls lo oks
  have UW := u8I_wrap whose
  have hv : Hid ((⟨id, whose, txt, op, s⟩ : Rm).right = (besideB id whose n && s.valid)) := by unfold Hid Rm.right; rw [← hn']
  have HM := Lib.hid (fun _ : Unit => rpC_mid id whose A n c op s.C)
  have HO : Hid (∀ _ : Unit, rpC id whose A n c op s.C = [.int .i64 id, .int .i64 whose, .slice A n c] ++ (cellsOf op ++ s.C)) := fun _ => rfl
  have L_p := rp_pre (id := id) (whose := whose) (A := A) (n := n) (c := c) lo
  have c0 : Hid ((rpC id whose A n c op s.C)[0]? = some (.int .i64 id)) := rfl
  have c1 : Hid ((rpC id whose A n c op s.C)[1]? = some (.int .i64 whose)) := rfl
  have c2 : Hid ((rpC id whose A n c op s.C)[2]? = some (.slice A n c)) := rfl
  have L_s := Sm.C_len oks
  have L_r := rpC_len lo L_s id whose A n c
  have BI := Lib.hid (besideB_iff (id := id) (whose := whose) (n := n))
  have HR : Hid ((⟨id, whose, txt, op, s⟩ : Rm).rows = [hiB id.toNat 4, [u8I whose], txt, op, bytesS s]) := rfl
  replace JL : Hid (_ → _) := JL
  rw [HR.out] at F1 JL
  rw [hv.out] at F0 F1 JL
  clear HR hv
  generalize bytesRp ⟨id, whose, txt, op, s⟩ = RB at *
  generalize bytesRpE ⟨id, whose, txt, op, s⟩ = RE at *
  have S_r : (rpC id whose A n c op s.C).toArray.size = 103 := by rw [List.size_toArray, L_r]
  obtain ⟨L, hL⟩ : ∃ x, x = rpC id whose A n c op s.C := ⟨_, rfl⟩
  rw [← hL] at VB HM HO c0 c1 c2 S_r ⊢
  clear hL L_r
  generalize [Value.int .i64 id, .int .i64 whose, .slice A n c] ++ cellsOf op = PR at *
  obtain ⟨SC, hSC⟩ : ∃ x, x = s.C := ⟨_, rfl⟩
  rw [← hSC] at BY HM HO L_s
  clear hSC oks
  generalize s.valid = va at *
  generalize bytesS s = SB at *
  generalize bytesE s = SE at *
  obtain ⟨ri, hr⟩ : ∃ x, x = w.heap.size := ⟨_, rfl⟩
  have B0 : Hid (Cb (w.alloc (Obj.cells L.toArray 28)) ri 28 L ∧ Ext w (w.alloc (Obj.cells L.toArray 28))) := by rw [hr]; exact ⟨Cb.new _ _ _, (Ext.refl w).alloc _⟩
  go_enter Tryd.func16, Tryd.ntmps16
  go_upto_region 1 with fail
  refine wp_gen (fun W => Cb W ri 28 L ∧ Ext w W) B0.out ?_
  rw [← hr]
  clear B0
  replace hr := Lib.hid hr
  rintro w0 ⟨k0, x0⟩
  have P0 : Hid (∀ u, Ext w0 u → Cb u ri 28 L ∧ Ext w u) := fun u x => ⟨k0.ext x, x0.trans x⟩
  replace k0 := Lib.hid k0
  clear x0
  go_wp2_with (first | ((with_reducible refine wpList_load_rowW (o := ⟨some 6, _, _, _, _, _⟩) ?_ 28 _ rfl ri ?_ 28 L.toArray (0, 0) _ ?_ Tryd.underlying28 ?_ ?_ ?_); (· rfl); (· rfl); (· exact k0.out); (· rfl); (· rw [S_r]; rfl); go_frame))
  refine (VB.out _).mono ?_
  rintro e w1 ⟨rfl, x1⟩
  replace x1 := Lib.hid x1
  clear VB k0
  rcases hbe : (besideB id whose n && va) with _ | _
  · rw [hbe] at F0
    obtain ⟨f1, f2⟩ := F0 rfl
    have F := Lib.hid (P0.out w1 x1.out).2
    clear F1 P0 BY JL hbe
    go_wp2_with fail
    go_ret2
    exact ⟨none, 0, 0, by rw [f2]; rfl, by rw [f1]; exact Bs.nil _, F.out⟩
  rw [hbe] at F1 JL
  obtain ⟨f1, f2⟩ := F1 rfl
  obtain ⟨hb1, rfl⟩ : besideB id whose n = true ∧ va = true := by simpa only [Bool.and_eq_true] using hbe
  obtain ⟨_, rfl⟩ := BS1 rfl
  obtain ⟨⟨i0, i1⟩, _, _⟩ := BI.out.1 hb1
  obtain ⟨m, rfl⟩ : ∃ m : Nat, id = (m : Int) := ⟨id.toNat, by omega⟩
  rw [Int.toNat_natCast] at f1 JL
  have HI : Hid (∀ (W : World), Calls Tryd.prog 51 #[.int .u64 (m : Int), .int .i64 4] W (RetOwn (hiB m 4) W)) := fun W => refHighO_calls (by omega) (by omega) (by omega) (by omega) rfl
  have JO : Hid (∀ (W : World) (C : Option Addr), Rw W C 5 5 [hiB m 4, [u8I whose], txt, op, SB] → Calls Tryd.prog 50 #[.slice C 5 5] W (RetBs RB W)) := fun W C r => by rw [f1]; exact refJoin_calls r (JL.out rfl)
  have u1 : IntKind.u64.wrap (m : Int) = (m : Int) := IntWalk.u64_in _ (by omega)
  have l4 := hiB_len m 4
  generalize hiB m 4 = b4 at *
  replace f2 := Lib.hid (fun _ : Unit => f2)
  clear F0 JL hbe BI f1 BS0 hb1
  have P1 : Hid (∀ u, Ext w1 u → Cb u ri 28 L ∧ Bs u A n c txt ∧ Ext w u) := fun u x => ⟨(P0.out u (x1.out.trans x)).1, hb.ext (P0.out u (x1.out.trans x)).2, (P0.out u (x1.out.trans x)).2⟩
  clear P0 x1
  have b35 : Hid (∀ j v, SC[j]? = some v → w1.cell? ⟨ri, 35 + j, none⟩ = some v) := Lib.hid ((P1.out w1 (Ext.refl _)).1.mid (HM.out ()) L_p)
  go_upto_region 3 with fail
  go_wp2_with (refine wpList_load_mid rfl (g := ri) (off := 35) (ys := SC) rfl rfl b35.out rfl rfl (by rw [L_s]; rfl) ?_; go_frame)
  refine (BY.out _).mono ?_
  rintro e w3 ⟨A1, n1, m1, rfl, o1, x3⟩
  have s1 := Lib.hid o1.bs
  have P3 : Hid (∀ u, Ext w3 u → Bs u A1 n1 m1 SB ∧ Bs u A n c txt ∧ Bs u (some ⟨ri, 3, none⟩) 32 32 op ∧ Ext w u) := fun u x => ⟨s1.out.ext x, (P1.out u (x3.trans x)).2.1, (P1.out u (x3.trans x)).1.bs (HO.out ()) rfl lo (by omega), (P1.out u (x3.trans x)).2.2⟩
  have P4 : Hid (∀ u, Ext w3 u → u.cell? ⟨ri, 0, none⟩ = some (.int .i64 (m : Int)) ∧ u.cell? ⟨ri, 1, none⟩ = some (.int .i64 whose) ∧ u.cell? ⟨ri, 2, none⟩ = some (.slice A n c)) := fun u x => ⟨(P1.out u (x3.trans x)).1.cell c0.out, (P1.out u (x3.trans x)).1.cell c1.out, (P1.out u (x3.trans x)).1.cell c2.out⟩
  clear P1 BY o1 x3 c0 c1 c2 b35 s1
  go_upto_region 4 with fail
  generalize u8I whose = yw at *
  have HB : Hid (∀ (W : World), Calls Tryd.prog 51 #[.int .u64 (m : Int), .int .i64 4] W (RetBs b4 W)) := fun W => (HI.out W).mono fun e w' ⟨A, n, c, h, o, x⟩ => ⟨A, n, c, h, o.bs, x⟩
  clear HI
  refine qgF (R := Ext) Ext.refl (fun _ _ _ => Ext.trans) [0, 1, 2, 3, 4, 5, 6, 7, 8, 9, 10, 11, 12, 13, 14, 15, 16] [] [0, 1, 3, 7, 0, 16, 48, 112, 0, 256, 0, 1024, 0, 8191, 16383, 32767, 65535] [true, true, true, true, true, true, true, true, true, true, true, true, true, true, true, true, true] ?_
  refine free_det (fun _ => Ext.refl _) _ rfl (v := ?_) (d := 16) rfl rfl ?_ ?_
  rotate_left
  · intro a_ w_ hev hR hk
    have e1 : a_.eval (.tmp 1) = _ := hk 1 rfl
    clear hk
    generalize a_.eval = ev at *
    obtain ⟨hev1, hev2, hev3⟩ := hev
    go_simp
    (try with_reducible rfl)
  refine free_det (fun _ => Ext.refl _) _ rfl (v := ?_) (d := 17) rfl rfl ?_ ?_
  rotate_left
  · intro a_ w_ hev hR hk
    have e15 : a_.eval (.tmp 15) = _ := hk 15 rfl
    clear hk
    have hF := ((P4.out w_ ((Ext.refl _).drew.trans hR)).1)
    generalize a_.eval = ev at *
    obtain ⟨hev1, hev2, hev3⟩ := hev
    go_simp
    (try with_reducible rfl)
  refine free_det (fun _ => Ext.refl _) _ rfl (v := ?_) (d := 18) rfl rfl ?_ ?_
  rotate_left
  · intro a_ w_ hev hR hk
    have e16 : a_.eval (.tmp 16) = _ := hk 16 rfl
    clear hk
    generalize a_.eval = ev at *
    obtain ⟨hev1, hev2, hev3⟩ := hev
    go_simp
    (try with_reducible rfl)
  refine free_step _ rfl (fun u w_ => ∃ A n c, u = .slice A n c ∧ Bs w_ A n c (b4)) (d := 19) rfl (fun _ _ _ h e => by obtain ⟨A, n, c, h1, h2⟩ := h; exact ⟨A, n, c, h1, h2.ext e⟩) rfl ?_ ?_
  · intro a_ w_ hev hR hk K1 hK1
    have e17 : a_.eval (.tmp 17) = _ := hk 17 rfl
    clear hk
    have f17 := ev_get.trans e17
    go_simp
    refine (HB.out _).mono ?_
    rintro e_ w2_ ⟨A_, n_, c_, rfl, b_, x_⟩
    exact hK1.out _ _ x_ ⟨A_, n_, c_, rfl, b_⟩
  refine free_det (fun _ => Ext.refl _) _ rfl (v := ?_) (d := 20) rfl rfl ?_ ?_
  rotate_left
  · intro a_ w_ hev hR hk
    have e1 : a_.eval (.tmp 1) = _ := hk 1 rfl
    clear hk
    generalize a_.eval = ev at *
    obtain ⟨hev1, hev2, hev3⟩ := hev
    go_simp
    (try with_reducible rfl)
  refine free_det (fun _ => Ext.refl _) _ rfl (v := ?_) (d := 21) rfl rfl ?_ ?_
  rotate_left
  · intro a_ w_ hev hR hk
    have e19 : a_.eval (.tmp 19) = _ := hk 19 rfl
    clear hk
    have hF := ((P4.out w_ ((Ext.refl _).drew.trans hR)).2.1)
    generalize a_.eval = ev at *
    obtain ⟨hev1, hev2, hev3⟩ := hev
    go_simp
    (try with_reducible rfl)
  refine free_det (fun _ => Ext.refl _) _ rfl (v := ?_) (d := 22) rfl rfl ?_ ?_
  rotate_left
  · intro a_ w_ hev hR hk
    have e20 : a_.eval (.tmp 20) = _ := hk 20 rfl
    clear hk
    generalize a_.eval = ev at *
    obtain ⟨hev1, hev2, hev3⟩ := hev
    go_simp
    (try with_reducible rfl)
  refine free_step _ rfl (fun u w_ => ∃ A n c, u = .slice A n c ∧ Bs w_ A n c [yw]) (d := 23) rfl (fun _ _ _ h e => by obtain ⟨A, n, c, h1, h2⟩ := h; exact ⟨A, n, c, h1, h2.ext e⟩) rfl ?_ ?_
  · intro a_ w_ hev hR hk K1 hK1
    have e21 : a_.eval (.tmp 21) = _ := hk 21 rfl
    have f21 := ev_get.trans e21
    go_simp
    exact hK1.out _ _ ((Ext.refl _).alloc _) ⟨_, _, _, rfl, Bs.one8 _ _ yw _ rfl⟩
  refine free_det (fun _ => Ext.refl _) _ rfl (v := ?_) (d := 24) rfl rfl ?_ ?_
  rotate_left
  · intro a_ w_ hev hR hk
    have e1 : a_.eval (.tmp 1) = _ := hk 1 rfl
    clear hk
    generalize a_.eval = ev at *
    obtain ⟨hev1, hev2, hev3⟩ := hev
    go_simp
    (try with_reducible rfl)
  refine free_det (fun _ => Ext.refl _) _ rfl (v := ?_) (d := 25) rfl rfl ?_ ?_
  rotate_left
  · intro a_ w_ hev hR hk
    have e23 : a_.eval (.tmp 23) = _ := hk 23 rfl
    clear hk
    have hF := ((P4.out w_ ((Ext.refl _).drew.trans hR)).2.2)
    generalize a_.eval = ev at *
    obtain ⟨hev1, hev2, hev3⟩ := hev
    go_simp
    (try with_reducible rfl)
  refine free_det (fun _ => Ext.refl _) _ rfl (v := ?_) (d := 26) rfl rfl ?_ ?_
  rotate_left
  · intro a_ w_ hev hR hk
    have e1 : a_.eval (.tmp 1) = _ := hk 1 rfl
    clear hk
    generalize a_.eval = ev at *
    obtain ⟨hev1, hev2, hev3⟩ := hev
    go_simp
    (try with_reducible rfl)
  refine free_det (fun _ => Ext.refl _) _ rfl (v := ?_) (d := 27) rfl rfl ?_ ?_
  rotate_left
  · intro a_ w_ hev hR hk
    have e25 : a_.eval (.tmp 25) = _ := hk 25 rfl
    clear hk
    generalize a_.eval = ev at *
    obtain ⟨hev1, hev2, hev3⟩ := hev
    go_simp
    (try with_reducible rfl)
  refine free_det (fun _ => Ext.refl _) _ rfl (v := ?_) (d := 28) rfl rfl ?_ ?_
  rotate_left
  · intro a_ w_ hev hR hk
    have e4 : a_.eval (.tmp 4) = _ := hk 4 rfl
    clear hk
    generalize a_.eval = ev at *
    obtain ⟨hev1, hev2, hev3⟩ := hev
    go_simp
    (try with_reducible rfl)
  refine free_step _ rfl (fun u w_ => ∃ g, u = .slice (some ⟨g, 0, none⟩) 5 5 ∧ Rw w_ (some ⟨g, 0, none⟩) 5 5 [b4, [yw], txt, op, SB]) (d := 29) rfl (fun _ _ _ h e => by obtain ⟨g, h1, h2⟩ := h; exact ⟨g, h1, h2.ext e⟩) rfl ?_ ?_
  · intro a_ w_ hev hR hk K1 hK1
    obtain ⟨A18, n18, c18, e18, b18⟩ : ∃ A n c, a_.eval (.tmp 18) = .slice A n c ∧ Bs w_ A n c b4 := hk 18 rfl
    obtain ⟨A22, n22, c22, e22, b22⟩ : ∃ A n c, a_.eval (.tmp 22) = .slice A n c ∧ Bs w_ A n c [yw] := hk 22 rfl
    have e24 : a_.eval (.tmp 24) = _ := hk 24 rfl
    have e26 : a_.eval (.tmp 26) = _ := hk 26 rfl
    have e27 : a_.eval (.tmp 27) = _ := hk 27 rfl
    have f18 := ev_get.trans e18
    have f22 := ev_get.trans e22
    have f24 := ev_get.trans e24
    have f26 := ev_get.trans e26
    have f27 := ev_get.trans e27
    have p3 := P3.out w_ ((Ext.refl _).drew.trans hR)
    go_simp
    exact hK1.out _ _ ((Ext.refl _).alloc _) ⟨_, rfl, rw_lit5 b18 b22 p3.2.1 p3.2.2.1 p3.1⟩
  refine free_step _ rfl (fun u w_ => ∃ A n c, u = .slice A n c ∧ Bs w_ A n c RB) (d := 30) rfl (fun _ _ _ h e => by obtain ⟨A, n, c, h1, h2⟩ := h; exact ⟨A, n, c, h1, h2.ext e⟩) rfl ?_ ?_
  · intro a_ w_ hev hR hk K1 hK1
    obtain ⟨g28, e28, r28⟩ : ∃ g, a_.eval (.tmp 28) = .slice (some ⟨g, 0, none⟩) 5 5 ∧ Rw w_ (some ⟨g, 0, none⟩) 5 5 [b4, [yw], txt, op, SB] := hk 28 rfl
    have f28 := ev_get.trans e28
    go_simp
    refine (JO.out _ _ r28).mono ?_
    rintro e_ w2_ ⟨A_, n_, c_, rfl, b_, x_⟩
    exact hK1.out _ _ x_ ⟨A_, n_, c_, rfl, b_⟩
  refine free_step _ rfl (fun u w_ => ∃ A n c, u = .slice A n c ∧ Bs w_ A n c RB) (d := 3) rfl (fun _ _ _ h e => by obtain ⟨A, n, c, h1, h2⟩ := h; exact ⟨A, n, c, h1, h2.ext e⟩) rfl ?_ ?_
  · intro a_ w_ hev hR hk K1 hK1
    obtain ⟨A29, n29, c29, e29, b29⟩ : ∃ A n c, a_.eval (.tmp 29) = .slice A n c ∧ Bs w_ A n c RB := hk 29 rfl
    have f29 := ev_get.trans e29
    go_simp
    exact hK1.out _ _ (Ext.refl _) ⟨_, _, _, rfl, b29⟩
  refine free_det (fun _ => Ext.refl _) _ rfl (v := ?_) (d := 4) rfl rfl ?_ ?_
  rotate_left
  · intro a_ w_ hev hR hk
    clear hk
    generalize a_.eval = ev at *
    obtain ⟨hev1, hev2, hev3⟩ := hev
    go_simp
    (try with_reducible rfl)
  intro v_ w5 hR hV_ hN_
  obtain ⟨hv16, hv15, hv14, hv13, hv12, hv11, hv10, hv9, hv8, hv7, hv6, hv5, hv4, hv3, hv2, hv1, hv0, _⟩ := hV_
  replace hv0 : v_ 0 = _ := hv0
  replace hv1 : v_ 1 = _ := hv1
  replace hv2 : v_ 2 = _ := hv2
  skip
  replace hv4 : v_ 4 = _ := hv4
  replace hv5 : v_ 5 = _ := hv5
  replace hv6 : v_ 6 = _ := hv6
  skip
  replace hv8 : v_ 8 = _ := hv8
  replace hv9 : v_ 9 = _ := hv9
  replace hv10 : v_ 10 = _ := hv10
  replace hv11 : v_ 11 = _ := hv11
  replace hv12 : v_ 12 = _ := hv12
  skip
  skip
  skip
  replace hv16 : v_ 16 = _ := hv16
  dsimp only [putE, dOpt]
  obtain ⟨A_3, N_3, C_3, hv3, hb_3⟩ := hv3
  obtain ⟨A_7, n_7, c_7, hv7, hb7⟩ := hv7
  obtain ⟨g_13, hv13, hb13⟩ := hv13
  obtain ⟨A_14, n_14, c_14, hv14, hb14⟩ := hv14
  obtain ⟨A_15, n_15, c_15, hv15, hb15⟩ := hv15
  clear hN_
  rw [hv0, hv1, hv2, hv3, hv4, hv5, hv6, hv7, hv8, hv9, hv10, hv11, hv12, hv13, hv14, hv15, hv16]
  go_frame
  clear hv0 hv1 hv2 hv3 hv4 hv5 hv6 hv7 hv8 hv9 hv10 hv11 hv12 hv13 hv14 hv15 hv16
  have F := Lib.hid (P3.out w5 ((Ext.refl _).drew.trans hR)).2.2.2
  have B := Lib.hid hb15
  clear hR hb14 hb13 hb7
  refine any_nil (by kernel_rfl) ?_
  go_wp2_with fail
  go_ret2
  exact ⟨A_15, n_15, c_15, by rw [f2.out ()]; rfl, B.out, F.out⟩
end Go.Proofs.YtmnohmhhmaeljaaDoor
