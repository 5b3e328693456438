import Derived.Test.YtbkmnmhfjgmoiaaDoorPkH
import Derived.Test.YtbkmnmhfjgmoiaaDoorRRead16
import Derived.Test.YtbkmnmhfjgmoiaaDoorL16Makes
/-
  palfreylaw16.StampReads.
-/
namespace Go.Proofs.YtbkmnmhfjgmoiaaDoor
open Go.ChangeShapes Go.WideShapes Go.ChangeAt Go.RowKit Go.Deep Go.Maps
set_option maxRecDepth 100000

set_option maxHeartbeats 16000000 in
theorem reads16_calls {w : World} {s : Sm} (ok : s.ok) {A : Option Addr} {n c : Nat} {b : List UInt8} (hb : Bs w A n c b) {tg : TypeId × Nat × Nat} (hG : Gl w tg) :
    Calls Tryd.prog 5 #[.agg s.C.toArray, .slice A n c] w fun e w' => e = .returned (.bool true) ∧ Ext w w' := by
  have AW : Hid (∀ W : World, Ext w W → Calls Tryd.prog 8 #[] W fun e w' => e = .returned (.bool true) ∧ Ext W w') := fun W x => awake16_calls (hG.kept x hG.lt)
  have RE : Hid (∀ (W : World) A n c ys, Bs W A n c ys → Calls Tryd.prog 16 #[.slice A n c] W fun e w' => e = .returned (.tuple #[.agg (readS16 ys).C.toArray, .int .i64 (readE16 ys)]) ∧ Ext W w') := fun W A n c ys h => read16_calls h
  have RR : Hid (∀ (W : World), Bs W A n c b → n ≤ 1000000 → Calls Tryd.prog 17 #[.slice A n c] W fun e w' => e = .returned (.tuple #[.agg (readS16 b).C.toArray, .int .i64 (readE16 b)]) ∧ Ext W w') := fun W h hn => rread16_calls h hn
  have BY : Hid (∀ (W : World) (s : Sm), s.ok → Calls Tryd.prog 14 #[.agg s.C.toArray] W fun e w' => ∃ A n c, e = .returned (.tuple #[.slice A n c, .int .i64 (bytesE s)]) ∧ Own W.heap.size w' A n c (bytesS s) ∧ Ext W w') := fun W s ok => bytes16_calls ok
  have CV : Hid (∀ (W : World) A n c (ys : List UInt8), Bs W A n c ys → (convert 27 9 (.slice A n c)).run Tryd.prog W = .ok (.string (strL ys)) W) := fun W A n c ys h => conv_bs h
  have BY1 := Lib.hid (fun W => BY.out W s ok)
  have okx := readS_ok b
  have BY2 := Lib.hid (fun W => BY.out W (readS16 b) okx)
  have oky := readS_ok (bytesS s)
  have XB : Hid (readE16 b = 0 → bytesE (readS16 b) = 0 ∧ bytesS (readS16 b) = b ∧ (readS16 b).valid = true) := fun h => bytes_read h
  have SB : Hid (s.valid = true → bytesE s = 0 ∧ readE16 (bytesS s) = 0 ∧ (readS16 (bytesS s)).C = s.C) := fun h => by
    obtain ⟨a, b⟩ := read_bytes ok h
    exact ⟨by unfold bytesE; rw [h]; rfl, a, by rw [b]⟩
  have SN : Hid (s.valid = false → bytesE s = 1) := fun h => by unfold bytesE; rw [h]; rfl
  have HLs := Lib.hid (stamp_L16 ok)
  have HLx := Lib.hid (stamp_L16 okx)
  have L_s := Sm.C_len ok
  have L_x := Sm.C_len okx
  have L_y := Sm.C_len oky
  have O_x : (readS16 b).C.toArray.all (·.oneCell') = true := one_cells (readS16 b).one
  have O_y : (readS16 (bytesS s)).C.toArray.all (·.oneCell') = true := one_cells (readS16 (bytesS s)).one
  have RE1 := Lib.hid (fun W h => RE.out W A n c b h)
  have RE2 := Lib.hid (fun W A n c h => RE.out W A n c (bytesS s) h)
  clear RE BY okx oky
  generalize readE16 (bytesS s) = ey at *
  generalize readE16 b = ex at *
  generalize (readS16 (bytesS s)).C = SY at *
  generalize bytesE s = bs at *
  generalize bytesS s = BSs at *
  generalize bytesE (readS16 b) = bx at *
  generalize bytesS (readS16 b) = BSx at *
  generalize (readS16 b).C = SX at *
  obtain ⟨SC, hSC⟩ : ∃ x, x = s.C := ⟨_, rfl⟩
  rw [← hSC] at L_s HLs BY1 SB ⊢
  clear hSC ok
  generalize s.valid = va at *
  have S_s : SC.toArray.size = 68 := by rw [List.size_toArray, L_s]
  have S_x : SX.toArray.size = 68 := by rw [List.size_toArray, L_x]
  have S_y : SY.toArray.size = 68 := by rw [List.size_toArray, L_y]
  have hal := stamp_alloc16
  have L_Z := Sm.C_len zSm_ok
  generalize zSm.C = ZS at *
  have S_Z : ZS.toArray.size = 68 := by rw [List.size_toArray, L_Z]
  clear L_Z L_s L_x L_y
  obtain ⟨r, hr⟩ : ∃ r, r = w.heap.size := ⟨_, rfl⟩
  have B0 : Hid (Cb (w.alloc (.cells SC.toArray 36)) r 36 SC ∧ Ext w (w.alloc (.cells SC.toArray 36))) := by rw [hr]; exact ⟨Cb.new _ _ _, (Ext.refl w).alloc _⟩
  have h1 := hb.le
  have h2 := hb.cap
  replace hb := Lib.hid hb
  clear hG
  go_enter Tryd.func5, Tryd.ntmps5
  go_upto_region 1 with fail
  refine wp_gen (fun W => Cb W r 36 SC ∧ Ext w W) B0.out ?_
  rw [← hr]
  clear B0
  replace hr := Lib.hid hr
  rintro w0 ⟨k0, x0⟩
  have P0 : Hid (∀ u, Ext w0 u → Cb u r 36 SC ∧ Bs u A n c b ∧ Ext w u) := fun u x => ⟨k0.ext x, hb.out.ext (x0.trans x), x0.trans x⟩
  have A0 := Lib.hid (AW.out w0 x0)
  clear AW k0 x0 hb
  go_wp2_with fail
  refine A0.out.mono ?_
  rintro e w1 ⟨rfl, x1⟩
  replace x1 := Lib.hid x1
  clear A0
  by_cases h5 : 500 < n
  · have d1 : decide ((500 : Int) < (n : Int)) = true := decide_eq_true (by omega)
    have F := Lib.hid (P0.out w1 x1.out).2.2
    clear P0 RE1 RE2 RR BY1 BY2 CV
    go_wp2_with fail
    go_ret
    exact ⟨rfl, F.out⟩
  have d1 : decide ((500 : Int) < (n : Int)) = false := decide_eq_false (by omega)
  have N1 := Lib.hid (RE1.out w1 (P0.out w1 x1.out).2.1)
  replace RR := Lib.hid (fun W h => RR.out W h (by omega))
  clear RE1
  go_wp2_with fail
  refine N1.out.mono ?_
  rintro e w2 ⟨rfl, x2⟩
  have y2 := Lib.hid (x1.out.trans x2)
  have B1 : Hid (Cb ((w2.alloc (.cells ZS.toArray 36)).setRow w2.heap.size SX.toArray) w2.heap.size 36 SX ∧ Ext w2 ((w2.alloc (.cells ZS.toArray 36)).setRow w2.heap.size SX.toArray)) := ⟨Cb.set (Cb.new _ _ _), Ext.newRow _ _ _⟩
  clear N1 x1 x2
  go_upto_region 5 with (refine wpList_store_row rfl 36 _ _ rfl w2.heap.size SX.toArray rfl rfl 36 ZS.toArray (heap_alloc_new _ _) (by rw [S_x]; rfl) (by rw [S_x, S_Z]) O_x ?_; simp only [Act.put])
  refine wp_gen (fun W => Cb W w2.heap.size 36 SX ∧ Ext w2 W) B1.out ?_
  generalize w2.heap.size = g6 at *
  clear B1
  rintro w3 ⟨k6, x3⟩
  have P3 : Hid (∀ u, Ext w3 u → Cb u g6 36 SX ∧ Cb u r 36 SC ∧ Bs u A n c b ∧ Ext w u) := fun u x => ⟨k6.ext x, P0.out u ((y2.out.trans x3).trans x)⟩
  clear P0 k6 x3 y2
  have N2 := Lib.hid (RR.out w3 (P3.out w3 (Ext.refl _)).2.2.1)
  clear RR
  go_wp2_with fail
  refine N2.out.mono ?_
  rintro e w4 ⟨rfl, x4⟩
  have B1 : Hid (Cb ((w4.alloc (.cells ZS.toArray 36)).setRow w4.heap.size SX.toArray) w4.heap.size 36 SX ∧ Ext w4 ((w4.alloc (.cells ZS.toArray 36)).setRow w4.heap.size SX.toArray)) := ⟨Cb.set (Cb.new _ _ _), Ext.newRow _ _ _⟩
  replace x4 := Lib.hid x4
  clear N2
  go_upto_region 6 with (refine wpList_store_row rfl 36 _ _ rfl w4.heap.size SX.toArray rfl rfl 36 ZS.toArray (heap_alloc_new _ _) (by rw [S_x]; rfl) (by rw [S_x, S_Z]) O_x ?_; simp only [Act.put])
  refine wp_gen (fun W => Cb W w4.heap.size 36 SX ∧ Ext w4 W) B1.out ?_
  generalize w4.heap.size = g8 at *
  clear B1
  rintro w5 ⟨k8, x5⟩
  have P5 : Hid (∀ u, Ext w5 u → Cb u g8 36 SX ∧ Cb u g6 36 SX ∧ Cb u r 36 SC ∧ Bs u A n c b ∧ Ext w u) := fun u x => ⟨k8.ext x, P3.out u ((x4.out.trans x5).trans x)⟩
  clear P3 k8 x4 x5
  have kr := Lib.hid (P5.out w5 (Ext.refl _)).2.2.1
  go_wp2_with (first | ((with_reducible refine wpList_load_rowW (o := ⟨some 32, _, _, _, _, _⟩) ?_ 36 _ rfl r ?_ 36 SC.toArray (0, 0) _ ?_ Tryd.underlying36 ?_ ?_ ?_); (· rfl); (· rfl); (· exact kr.out); (· rfl); (· rw [S_s]; rfl); simp only [Act.put, List.setIfInBounds_toArray, List.set_cons_zero, List.set_cons_succ]))
  refine (BY1.out _).mono ?_
  rintro e w6 ⟨A6, n6, c6, rfl, o6, x6⟩
  have b6 := o6.bs
  have N3 := Lib.hid (RE2.out w6 _ _ _ b6)
  replace x6 := Lib.hid x6
  clear kr BY1 o6 b6 RE2
  go_wp2_with fail
  refine N3.out.mono ?_
  rintro e w7 ⟨rfl, x7⟩
  have B1 : Hid (Cb ((w7.alloc (.cells ZS.toArray 36)).setRow w7.heap.size SY.toArray) w7.heap.size 36 SY ∧ Ext w7 ((w7.alloc (.cells ZS.toArray 36)).setRow w7.heap.size SY.toArray)) := ⟨Cb.set (Cb.new _ _ _), Ext.newRow _ _ _⟩
  replace x7 := Lib.hid x7
  clear N3
  go_upto_region 8 with (refine wpList_store_row rfl 36 _ _ rfl w7.heap.size SY.toArray rfl rfl 36 ZS.toArray (heap_alloc_new _ _) (by rw [S_y]; rfl) (by rw [S_y, S_Z]) O_y ?_; simp only [Act.put])
  refine wp_gen (fun W => Cb W w7.heap.size 36 SY ∧ Ext w7 W) B1.out ?_
  generalize w7.heap.size = g12 at *
  clear B1
  rintro w8 ⟨k12, x8⟩
  have P8 : Hid (∀ u, Ext w8 u → Cb u g12 36 SY ∧ Cb u g8 36 SX ∧ Cb u g6 36 SX ∧ Cb u r 36 SC ∧ Bs u A n c b ∧ Ext w u) := fun u x => ⟨k12.ext x, P5.out u (((x6.out.trans x7.out).trans x8).trans x)⟩
  clear P5 k12 x6 x7 x8 hal
  obtain ⟨k12, _, k6, kr, _, _⟩ := P8.out w8 (Ext.refl _)
  replace k12 := Lib.hid k12
  replace k6 := Lib.hid k6
  replace kr := Lib.hid kr
  rcases va with _ | _
  · rw [SN.out rfl]
    clear SB SN
    go_wp2_with (first | ((with_reducible refine wpList_load_rowW (o := ⟨some 53, _, _, _, _, _⟩) ?_ 36 _ rfl g6 ?_ 36 SX.toArray (0, 0) _ ?_ Tryd.underlying36 ?_ ?_ ?_); (· rfl); (· rfl); (· exact k6.out); (· rfl); (· rw [S_x]; rfl); simp only [Act.put, List.setIfInBounds_toArray, List.set_cons_zero, List.set_cons_succ]))
    refine (BY2.out _).mono ?_
    rintro e w9 ⟨A9, n9, c9, rfl, o9, x9⟩
    obtain ⟨_, k8, k6, _, bb, xx⟩ := P8.out w9 x9
    have v1 := CV.out _ _ _ _ _ o9.bs
    have v2 := CV.out _ _ _ _ _ bb
    replace k8 := Lib.hid k8
    replace k6 := Lib.hid k6
    replace xx := Lib.hid xx
    clear P8 CV bb x9 kr k12 o9 BY2
    have ee : (ex == ex) = true := by simp
    by_cases he : ex = 0
    · obtain ⟨f1, f2, _⟩ := XB.out he
      subst he
      subst f1 f2
      have u7 : ((strL BSx).toList == (strL BSx).toList) = true := by simp
      clear XB
      go_wp2_with (first
        | ((with_reducible refine wpList_load_rowW (o := ⟨some 59, _, _, _, _, _⟩) ?_ 36 _ rfl g6 ?_ 36 SX.toArray (0, 0) _ ?_ Tryd.underlying36 ?_ ?_ ?_); (· rfl); (· rfl); (· exact k6.out); (· rfl); (· rw [S_x]; rfl); simp only [Act.put, List.setIfInBounds_toArray, List.set_cons_zero, List.set_cons_succ])
        | ((with_reducible refine wpList_load_rowW (o := ⟨some 60, _, _, _, _, _⟩) ?_ 36 _ rfl g8 ?_ 36 SX.toArray (0, 0) _ ?_ Tryd.underlying36 ?_ ?_ ?_); (· rfl); (· rfl); (· exact k8.out); (· rfl); (· rw [S_x]; rfl); simp only [Act.put, List.setIfInBounds_toArray, List.set_cons_zero, List.set_cons_succ])
        | (refine wpList_exec rfl (exec_eql_stamp HLx.out rfl rfl rfl) ?_; simp only [Act.put, List.setIfInBounds_toArray, List.set_cons_zero, List.set_cons_succ]))
      go_ret
      exact ⟨rfl, xx.out⟩
    · have u8 : (ex == 0) = false := beq_false_of_ne he
      clear XB
      go_wp2_with (first
        | ((with_reducible refine wpList_load_rowW (o := ⟨some 59, _, _, _, _, _⟩) ?_ 36 _ rfl g6 ?_ 36 SX.toArray (0, 0) _ ?_ Tryd.underlying36 ?_ ?_ ?_); (· rfl); (· rfl); (· exact k6.out); (· rfl); (· rw [S_x]; rfl); simp only [Act.put, List.setIfInBounds_toArray, List.set_cons_zero, List.set_cons_succ])
        | ((with_reducible refine wpList_load_rowW (o := ⟨some 60, _, _, _, _, _⟩) ?_ 36 _ rfl g8 ?_ 36 SX.toArray (0, 0) _ ?_ Tryd.underlying36 ?_ ?_ ?_); (· rfl); (· rfl); (· exact k8.out); (· rfl); (· rw [S_x]; rfl); simp only [Act.put, List.setIfInBounds_toArray, List.set_cons_zero, List.set_cons_succ])
        | (refine wpList_exec rfl (exec_eql_stamp HLx.out rfl rfl rfl) ?_; simp only [Act.put, List.setIfInBounds_toArray, List.set_cons_zero, List.set_cons_succ]))
      go_ret
      exact ⟨rfl, xx.out⟩
  · obtain ⟨f1, f2, f3⟩ := SB.out rfl
    rw [f1, f2]
    rw [f3] at k12 S_y
    clear SB SN f1 f2 f3 O_y
    go_wp2_with (first
      | ((with_reducible refine wpList_load_rowW (o := ⟨some 47, _, _, _, _, _⟩) ?_ 36 _ rfl g12 ?_ 36 SC.toArray (0, 0) _ ?_ Tryd.underlying36 ?_ ?_ ?_); (· rfl); (· rfl); (· exact k12.out); (· rfl); (· rw [S_s]; rfl); simp only [Act.put, List.setIfInBounds_toArray, List.set_cons_zero, List.set_cons_succ])
      | ((with_reducible refine wpList_load_rowW (o := ⟨some 48, _, _, _, _, _⟩) ?_ 36 _ rfl r ?_ 36 SC.toArray (0, 0) _ ?_ Tryd.underlying36 ?_ ?_ ?_); (· rfl); (· rfl); (· exact kr.out); (· rfl); (· rw [S_s]; rfl); simp only [Act.put, List.setIfInBounds_toArray, List.set_cons_zero, List.set_cons_succ])
      | (refine wpList_exec rfl (exec_neq_stamp HLs.out rfl rfl rfl) ?_; simp only [Act.put, List.setIfInBounds_toArray, List.set_cons_zero, List.set_cons_succ])
      | ((with_reducible refine wpList_load_rowW (o := ⟨some 53, _, _, _, _, _⟩) ?_ 36 _ rfl g6 ?_ 36 SX.toArray (0, 0) _ ?_ Tryd.underlying36 ?_ ?_ ?_); (· rfl); (· rfl); (· exact k6.out); (· rfl); (· rw [S_x]; rfl); simp only [Act.put, List.setIfInBounds_toArray, List.set_cons_zero, List.set_cons_succ]))
    refine (BY2.out _).mono ?_
    rintro e w9 ⟨A9, n9, c9, rfl, o9, x9⟩
    obtain ⟨_, k8, k6, _, bb, xx⟩ := P8.out w9 x9
    have v1 := CV.out _ _ _ _ _ o9.bs
    have v2 := CV.out _ _ _ _ _ bb
    replace k8 := Lib.hid k8
    replace k6 := Lib.hid k6
    replace xx := Lib.hid xx
    clear P8 CV bb x9 kr k12 o9 BY2
    have ee : (ex == ex) = true := by simp
    by_cases he : ex = 0
    · obtain ⟨f1, f2, _⟩ := XB.out he
      subst he
      subst f1 f2
      have u7 : ((strL BSx).toList == (strL BSx).toList) = true := by simp
      clear XB
      go_wp2_with (first
        | ((with_reducible refine wpList_load_rowW (o := ⟨some 59, _, _, _, _, _⟩) ?_ 36 _ rfl g6 ?_ 36 SX.toArray (0, 0) _ ?_ Tryd.underlying36 ?_ ?_ ?_); (· rfl); (· rfl); (· exact k6.out); (· rfl); (· rw [S_x]; rfl); simp only [Act.put, List.setIfInBounds_toArray, List.set_cons_zero, List.set_cons_succ])
        | ((with_reducible refine wpList_load_rowW (o := ⟨some 60, _, _, _, _, _⟩) ?_ 36 _ rfl g8 ?_ 36 SX.toArray (0, 0) _ ?_ Tryd.underlying36 ?_ ?_ ?_); (· rfl); (· rfl); (· exact k8.out); (· rfl); (· rw [S_x]; rfl); simp only [Act.put, List.setIfInBounds_toArray, List.set_cons_zero, List.set_cons_succ])
        | (refine wpList_exec rfl (exec_eql_stamp HLx.out rfl rfl rfl) ?_; simp only [Act.put, List.setIfInBounds_toArray, List.set_cons_zero, List.set_cons_succ]))
      go_ret
      exact ⟨rfl, xx.out⟩
    · have u8 : (ex == 0) = false := beq_false_of_ne he
      clear XB
      go_wp2_with (first
        | ((with_reducible refine wpList_load_rowW (o := ⟨some 59, _, _, _, _, _⟩) ?_ 36 _ rfl g6 ?_ 36 SX.toArray (0, 0) _ ?_ Tryd.underlying36 ?_ ?_ ?_); (· rfl); (· rfl); (· exact k6.out); (· rfl); (· rw [S_x]; rfl); simp only [Act.put, List.setIfInBounds_toArray, List.set_cons_zero, List.set_cons_succ])
        | ((with_reducible refine wpList_load_rowW (o := ⟨some 60, _, _, _, _, _⟩) ?_ 36 _ rfl g8 ?_ 36 SX.toArray (0, 0) _ ?_ Tryd.underlying36 ?_ ?_ ?_); (· rfl); (· rfl); (· exact k8.out); (· rfl); (· rw [S_x]; rfl); simp only [Act.put, List.setIfInBounds_toArray, List.set_cons_zero, List.set_cons_succ])
        | (refine wpList_exec rfl (exec_eql_stamp HLx.out rfl rfl rfl) ?_; simp only [Act.put, List.setIfInBounds_toArray, List.set_cons_zero, List.set_cons_succ]))
      go_ret
      exact ⟨rfl, xx.out⟩
end Go.Proofs.YtbkmnmhfjgmoiaaDoor
