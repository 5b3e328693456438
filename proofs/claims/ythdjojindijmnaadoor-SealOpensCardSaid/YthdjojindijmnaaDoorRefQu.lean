import Derived.Test.YthdjojindijmnaaDoorPkG
/-
  The document's QUARTER.
-/
namespace Go.Proofs.YthdjojindijmnaaDoor
open Go.ChangeShapes Go.WideShapes Go.ChangeAt Go.RowKit Go.Deep


set_option maxRecDepth 100000 in
set_option maxHeartbeats 4000000 in
theorem refQu_calls {cap g a b c d : Nat} {vs : List Nat} {w : World} (h : Arr w g vs) (hl : vs.length = 16) (ha : a < 16) (hb : b < 16) (hc : c < 16) (hd : d < 16) :
    Calls Tryd.prog 71 #[.slice (some ⟨g, 0, none⟩) 16 cap, .int .i64 (a : Int), .int .i64 (b : Int), .int .i64 (c : Int), .int .i64 (d : Int)] w
      fun e w' => e = .returned (.tuple #[]) ∧ Arr w' g (quL vs a b c d) ∧ w.grownBy w' (some g) := by
  have ha' : (a : Int) < 16 := by omega
  have hb' : (b : Int) < 16 := by omega
  have hc' : (c : Int) < 16 := by omega
  have hd' : (d : Int) < 16 := by omega
  go_enter Tryd.func71, Tryd.ntmps71
  go_wp2_with fail
  refine wp_gen (fun w1 => Arr w1 g vs ∧ w.grownBy w1 (some g)) ⟨h, gr_ext (Ext.refl _) _⟩ ?_
  rintro w0 ⟨A0, G0⟩
  have L0 := hl
  clear h
  obtain ⟨cp, fp, lp⟩ := A0.fct (i := a) (by omega)
  obtain ⟨cq, fq, lq⟩ := A0.fct (i := b) (by omega)
  have KEEP : Hid (∀ w', Ext w0 w' → w'.cell? ⟨g, a, none⟩ = some (.int .u32 (wd vs a : Int)) ∧ w'.cell? ⟨g, b, none⟩ = some (.int .u32 (wd vs b : Int))) := fun w' e => ⟨((A0.ext e).fct (by omega)).1, ((A0.ext e).fct (by omega)).1⟩
  have u1 : IntKind.u32.wrap ((wd vs a : Int) + (wd vs b : Int)) = (add32 (wd vs a) (wd vs b) : Int) := u32_add
  refine wp_region_seqZ (R := Ext) Ext.refl (fun _ _ _ => Ext.trans) 12 [0, 1, 2, 3, 4, 5, 6, 7, 8, 9, 10, 11, 12] [12] [(0, 11, 2), (0, 12, 4), (0, 13, 2), (0, 14, 4), (12, 15, 24576), (16, 16, 32768), (0, 17, 2), (0, 18, 8), (192, 19, 393216), (256, 20, 524288), (544, 21, 1114112), (2047, 22, 6144), (4095, 0, 6291456)] (by kernel_rfl) (by kernel_rfl) (by kernel_rfl) rfl (by kernel_rfl) (by kernel_rfl) (by kernel_rfl) (fun _ _ d _ _ h => by cases d <;> exact h) ?_
  repeat (refine seqZ_read _ (fun w' e => KEEP.out w' ((Ext.refl _).drew.trans e)) _ (v := ?_) rfl rfl (by rfl) ?_ ?_; rotate_left; (· intro w' hF; go_simp; (try with_reducible rfl)); simp only [Act.put, List.setIfInBounds_toArray, List.set_cons_zero, List.set_cons_succ])
  refine seqZ_do _ rfl rfl (by rfl) (fun K1 hK1 => ?_)
  go_simp
  refine hK1.out _ _ (.inl rfl) ?_
  clear hK1 K1
  refine seqZ_done ?_
  go_wp2_with fail
  refine wp_gen (fun w1 => Arr w1 g (putSum vs a b) ∧ w.grownBy w1 (some g)) ⟨(A0.set (by omega) (add32_lt _ _)).ext (Ext.refl _).drew, grown_set G0⟩ ?_
  rintro w1 ⟨A1, G1⟩
  have L1 : (putSum vs a b).length = 16 := (putSum_len ..).trans L0
  clear A0 G0 L0 cp fp lp cq fq lq KEEP u1
  generalize HV0 : putSum vs a b = v1 at A1 L1
  replace HV0 := Lib.hid HV0
  obtain ⟨cp, fp, lp⟩ := A1.fct (i := d) (by omega)
  obtain ⟨cq, fq, lq⟩ := A1.fct (i := a) (by omega)
  have KEEP : Hid (∀ w', Ext w1 w' → w'.cell? ⟨g, d, none⟩ = some (.int .u32 (wd v1 d : Int)) ∧ w'.cell? ⟨g, a, none⟩ = some (.int .u32 (wd v1 a : Int))) := fun w' e => ⟨((A1.ext e).fct (by omega)).1, ((A1.ext e).fct (by omega)).1⟩
  have u1 : bits .xor .u32 (wd v1 d : Int) (wd v1 a : Int) = ((wd v1 d ^^^ wd v1 a : Nat) : Int) := u32_xor_nat _ _ lp lq
  have HR := Lib.hid (fun w0 : World => @refLeft_calls 16 (wd v1 d ^^^ wd v1 a) 16 w0 (xor_lt32 lp lq) (by omega) (by omega) (by omega))
  refine wp_region_seqZ (R := Ext) Ext.refl (fun _ _ _ => Ext.trans) 13 [0, 1, 2, 3, 4, 5, 6, 7, 8, 9, 10, 11, 12, 13] [11, 13] [(0, 23, 2), (0, 24, 32), (0, 25, 2), (0, 26, 32), (12, 27, 100663296), (16, 28, 134217728), (0, 29, 2), (0, 30, 4), (192, 31, 1610612736), (256, 32, 2147483648), (544, 33, 4563402752), (1024, 34, 8589934592), (4095, 35, 25165824), (8191, 0, 51539607552)] (by kernel_rfl) (by kernel_rfl) (by kernel_rfl) rfl (by kernel_rfl) (by kernel_rfl) (by kernel_rfl) (fun _ _ d _ _ h => by cases d <;> exact h) ?_
  repeat (refine seqZ_read _ (fun w' e => KEEP.out w' ((Ext.refl _).drew.trans e)) _ (v := ?_) rfl rfl (by rfl) ?_ ?_; rotate_left; (· intro w' hF; go_simp; (try with_reducible rfl)); simp only [Act.put, List.setIfInBounds_toArray, List.set_cons_zero, List.set_cons_succ])
  refine seqZ_do _ rfl rfl (by rfl) (fun K1 hK1 => ?_)
  go_simp
  refine (HR.out _).mono ?_
  rintro e w1 ⟨rfl, k1, rfl⟩
  refine hK1.out _ _ (.inr ((Ext.refl _).drewN k1)) ?_
  clear hK1 K1
  try simp only [Act.put, List.setIfInBounds_toArray, List.set_cons_zero, List.set_cons_succ]
  repeat (refine seqZ_read _ (fun w' e => KEEP.out w' (((Ext.refl _).drew.drewN k1).trans e)) _ (v := ?_) rfl rfl (by rfl) ?_ ?_; rotate_left; (· intro w' hF; go_simp; (try with_reducible rfl)); simp only [Act.put, List.setIfInBounds_toArray, List.set_cons_zero, List.set_cons_succ])
  refine seqZ_do _ rfl rfl (by rfl) (fun K1 hK1 => ?_)
  go_simp
  refine hK1.out _ _ (.inl rfl) ?_
  clear hK1 K1
  refine seqZ_done ?_
  go_wp2_with fail
  refine wp_gen (fun w1 => Arr w1 g (putRot 16 v1 d a) ∧ w.grownBy w1 (some g)) ⟨(A1.ext ((Ext.refl _).drewN (1 + k1))).set (by omega) (rotr_lt (xor_lt32 lp lq)), gr_set (gr_trans G1 (gr_ext ((Ext.refl _).drewN (1 + k1)) _)) _ _⟩ ?_
  rintro w2 ⟨A2, G2⟩
  have L2 : (putRot 16 v1 d a).length = 16 := (putRot_len ..).trans L1
  clear A1 G1 L1 cp fp lp cq fq lq KEEP u1 HR
  generalize HV1 : putRot 16 v1 d a = v2 at A2 L2
  replace HV1 := Lib.hid HV1
  obtain ⟨cp, fp, lp⟩ := A2.fct (i := c) (by omega)
  obtain ⟨cq, fq, lq⟩ := A2.fct (i := d) (by omega)
  have KEEP : Hid (∀ w', Ext w2 w' → w'.cell? ⟨g, c, none⟩ = some (.int .u32 (wd v2 c : Int)) ∧ w'.cell? ⟨g, d, none⟩ = some (.int .u32 (wd v2 d : Int))) := fun w' e => ⟨((A2.ext e).fct (by omega)).1, ((A2.ext e).fct (by omega)).1⟩
  have u1 : IntKind.u32.wrap ((wd v2 c : Int) + (wd v2 d : Int)) = (add32 (wd v2 c) (wd v2 d) : Int) := u32_add
  refine wp_region_seqZ (R := Ext) Ext.refl (fun _ _ _ => Ext.trans) 12 [0, 1, 2, 3, 4, 5, 6, 7, 8, 9, 10, 11, 12] [12] [(0, 36, 2), (0, 37, 16), (0, 38, 2), (0, 39, 16), (12, 40, 824633720832), (16, 41, 1099511627776), (0, 42, 2), (0, 43, 32), (192, 44, 13194139533312), (256, 45, 17592186044416), (544, 46, 37383395344384), (2047, 47, 206158430208), (4095, 0, 211106232532992)] (by kernel_rfl) (by kernel_rfl) (by kernel_rfl) rfl (by kernel_rfl) (by kernel_rfl) (by kernel_rfl) (fun _ _ d _ _ h => by cases d <;> exact h) ?_
  repeat (refine seqZ_read _ (fun w' e => KEEP.out w' ((Ext.refl _).drew.trans e)) _ (v := ?_) rfl rfl (by rfl) ?_ ?_; rotate_left; (· intro w' hF; go_simp; (try with_reducible rfl)); simp only [Act.put, List.setIfInBounds_toArray, List.set_cons_zero, List.set_cons_succ])
  refine seqZ_do _ rfl rfl (by rfl) (fun K1 hK1 => ?_)
  go_simp
  refine hK1.out _ _ (.inl rfl) ?_
  clear hK1 K1
  refine seqZ_done ?_
  go_wp2_with fail
  refine wp_gen (fun w1 => Arr w1 g (putSum v2 c d) ∧ w.grownBy w1 (some g)) ⟨(A2.set (by omega) (add32_lt _ _)).ext (Ext.refl _).drew, grown_set G2⟩ ?_
  rintro w3 ⟨A3, G3⟩
  have L3 : (putSum v2 c d).length = 16 := (putSum_len ..).trans L2
  clear A2 G2 L2 cp fp lp cq fq lq KEEP u1
  generalize HV2 : putSum v2 c d = v3 at A3 L3
  replace HV2 := Lib.hid HV2
  obtain ⟨cp, fp, lp⟩ := A3.fct (i := b) (by omega)
  obtain ⟨cq, fq, lq⟩ := A3.fct (i := c) (by omega)
  have KEEP : Hid (∀ w', Ext w3 w' → w'.cell? ⟨g, b, none⟩ = some (.int .u32 (wd v3 b : Int)) ∧ w'.cell? ⟨g, c, none⟩ = some (.int .u32 (wd v3 c : Int))) := fun w' e => ⟨((A3.ext e).fct (by omega)).1, ((A3.ext e).fct (by omega)).1⟩
  have u1 : bits .xor .u32 (wd v3 b : Int) (wd v3 c : Int) = ((wd v3 b ^^^ wd v3 c : Nat) : Int) := u32_xor_nat _ _ lp lq
  have HR := Lib.hid (fun w0 : World => @refLeft_calls 20 (wd v3 b ^^^ wd v3 c) 12 w0 (xor_lt32 lp lq) (by omega) (by omega) (by omega))
  refine wp_region_seqZ (R := Ext) Ext.refl (fun _ _ _ => Ext.trans) 13 [0, 1, 2, 3, 4, 5, 6, 7, 8, 9, 10, 11, 12, 13] [11, 13] [(0, 48, 2), (0, 49, 8), (0, 50, 2), (0, 51, 8), (12, 52, 3377699720527872), (16, 53, 4503599627370496), (0, 54, 2), (0, 55, 16), (192, 56, 54043195528445952), (256, 57, 72057594037927936), (544, 58, 153122387330596864), (1024, 59, 288230376151711744), (4095, 60, 844424930131968), (8191, 0, 1729382256910270464)] (by kernel_rfl) (by kernel_rfl) (by kernel_rfl) rfl (by kernel_rfl) (by kernel_rfl) (by kernel_rfl) (fun _ _ d _ _ h => by cases d <;> exact h) ?_
  repeat (refine seqZ_read _ (fun w' e => KEEP.out w' ((Ext.refl _).drew.trans e)) _ (v := ?_) rfl rfl (by rfl) ?_ ?_; rotate_left; (· intro w' hF; go_simp; (try with_reducible rfl)); simp only [Act.put, List.setIfInBounds_toArray, List.set_cons_zero, List.set_cons_succ])
  refine seqZ_do _ rfl rfl (by rfl) (fun K1 hK1 => ?_)
  go_simp
  refine (HR.out _).mono ?_
  rintro e w1 ⟨rfl, k1, rfl⟩
  refine hK1.out _ _ (.inr ((Ext.refl _).drewN k1)) ?_
  clear hK1 K1
  try simp only [Act.put, List.setIfInBounds_toArray, List.set_cons_zero, List.set_cons_succ]
  repeat (refine seqZ_read _ (fun w' e => KEEP.out w' (((Ext.refl _).drew.drewN k1).trans e)) _ (v := ?_) rfl rfl (by rfl) ?_ ?_; rotate_left; (· intro w' hF; go_simp; (try with_reducible rfl)); simp only [Act.put, List.setIfInBounds_toArray, List.set_cons_zero, List.set_cons_succ])
  refine seqZ_do _ rfl rfl (by rfl) (fun K1 hK1 => ?_)
  go_simp
  refine hK1.out _ _ (.inl rfl) ?_
  clear hK1 K1
  refine seqZ_done ?_
  go_wp2_with fail
  refine wp_gen (fun w1 => Arr w1 g (putRot 20 v3 b c) ∧ w.grownBy w1 (some g)) ⟨(A3.ext ((Ext.refl _).drewN (1 + k1))).set (by omega) (rotr_lt (xor_lt32 lp lq)), gr_set (gr_trans G3 (gr_ext ((Ext.refl _).drewN (1 + k1)) _)) _ _⟩ ?_
  rintro w4 ⟨A4, G4⟩
  have L4 : (putRot 20 v3 b c).length = 16 := (putRot_len ..).trans L3
  clear A3 G3 L3 cp fp lp cq fq lq KEEP u1 HR
  generalize HV3 : putRot 20 v3 b c = v4 at A4 L4
  replace HV3 := Lib.hid HV3
  obtain ⟨cp, fp, lp⟩ := A4.fct (i := a) (by omega)
  obtain ⟨cq, fq, lq⟩ := A4.fct (i := b) (by omega)
  have KEEP : Hid (∀ w', Ext w4 w' → w'.cell? ⟨g, a, none⟩ = some (.int .u32 (wd v4 a : Int)) ∧ w'.cell? ⟨g, b, none⟩ = some (.int .u32 (wd v4 b : Int))) := fun w' e => ⟨((A4.ext e).fct (by omega)).1, ((A4.ext e).fct (by omega)).1⟩
  have u1 : IntKind.u32.wrap ((wd v4 a : Int) + (wd v4 b : Int)) = (add32 (wd v4 a) (wd v4 b) : Int) := u32_add
  refine wp_region_seqZ (R := Ext) Ext.refl (fun _ _ _ => Ext.trans) 12 [0, 1, 2, 3, 4, 5, 6, 7, 8, 9, 10, 11, 12] [12] [(0, 61, 2), (0, 62, 4), (0, 63, 2), (0, 64, 4), (12, 65, 27670116110564327424), (16, 66, 36893488147419103232), (0, 67, 2), (0, 68, 8), (192, 69, 442721857769029238784), (256, 70, 590295810358705651712), (544, 71, 1254378597012249509888), (2047, 72, 6917529027641081856), (4095, 0, 7083549724304467820544)] (by kernel_rfl) (by kernel_rfl) (by kernel_rfl) rfl (by kernel_rfl) (by kernel_rfl) (by kernel_rfl) (fun _ _ d _ _ h => by cases d <;> exact h) ?_
  repeat (refine seqZ_read _ (fun w' e => KEEP.out w' ((Ext.refl _).drew.trans e)) _ (v := ?_) rfl rfl (by rfl) ?_ ?_; rotate_left; (· intro w' hF; go_simp; (try with_reducible rfl)); simp only [Act.put, List.setIfInBounds_toArray, List.set_cons_zero, List.set_cons_succ])
  refine seqZ_do _ rfl rfl (by rfl) (fun K1 hK1 => ?_)
  go_simp
  refine hK1.out _ _ (.inl rfl) ?_
  clear hK1 K1
  refine seqZ_done ?_
  go_wp2_with fail
  refine wp_gen (fun w1 => Arr w1 g (putSum v4 a b) ∧ w.grownBy w1 (some g)) ⟨(A4.set (by omega) (add32_lt _ _)).ext (Ext.refl _).drew, grown_set G4⟩ ?_
  rintro w5 ⟨A5, G5⟩
  have L5 : (putSum v4 a b).length = 16 := (putSum_len ..).trans L4
  clear A4 G4 L4 cp fp lp cq fq lq KEEP u1
  generalize HV4 : putSum v4 a b = v5 at A5 L5
  replace HV4 := Lib.hid HV4
  obtain ⟨cp, fp, lp⟩ := A5.fct (i := d) (by omega)
  obtain ⟨cq, fq, lq⟩ := A5.fct (i := a) (by omega)
  have KEEP : Hid (∀ w', Ext w5 w' → w'.cell? ⟨g, d, none⟩ = some (.int .u32 (wd v5 d : Int)) ∧ w'.cell? ⟨g, a, none⟩ = some (.int .u32 (wd v5 a : Int))) := fun w' e => ⟨((A5.ext e).fct (by omega)).1, ((A5.ext e).fct (by omega)).1⟩
  have u1 : bits .xor .u32 (wd v5 d : Int) (wd v5 a : Int) = ((wd v5 d ^^^ wd v5 a : Nat) : Int) := u32_xor_nat _ _ lp lq
  have HR := Lib.hid (fun w0 : World => @refLeft_calls 24 (wd v5 d ^^^ wd v5 a) 8 w0 (xor_lt32 lp lq) (by omega) (by omega) (by omega))
  refine wp_region_seqZ (R := Ext) Ext.refl (fun _ _ _ => Ext.trans) 13 [0, 1, 2, 3, 4, 5, 6, 7, 8, 9, 10, 11, 12, 13] [11, 13] [(0, 73, 2), (0, 74, 32), (0, 75, 2), (0, 76, 32), (12, 77, 113336795588871485128704), (16, 78, 151115727451828646838272), (0, 79, 2), (0, 80, 4), (192, 81, 1813388729421943762059264), (256, 82, 2417851639229258349412352), (544, 83, 5137934733362173992501248), (1024, 84, 9671406556917033397649408), (4095, 85, 28334198897217871282176), (8191, 0, 58028439341502200385896448)] (by kernel_rfl) (by kernel_rfl) (by kernel_rfl) rfl (by kernel_rfl) (by kernel_rfl) (by kernel_rfl) (fun _ _ d _ _ h => by cases d <;> exact h) ?_
  repeat (refine seqZ_read _ (fun w' e => KEEP.out w' ((Ext.refl _).drew.trans e)) _ (v := ?_) rfl rfl (by rfl) ?_ ?_; rotate_left; (· intro w' hF; go_simp; (try with_reducible rfl)); simp only [Act.put, List.setIfInBounds_toArray, List.set_cons_zero, List.set_cons_succ])
  refine seqZ_do _ rfl rfl (by rfl) (fun K1 hK1 => ?_)
  go_simp
  refine (HR.out _).mono ?_
  rintro e w1 ⟨rfl, k1, rfl⟩
  refine hK1.out _ _ (.inr ((Ext.refl _).drewN k1)) ?_
  clear hK1 K1
  try simp only [Act.put, List.setIfInBounds_toArray, List.set_cons_zero, List.set_cons_succ]
  repeat (refine seqZ_read _ (fun w' e => KEEP.out w' (((Ext.refl _).drew.drewN k1).trans e)) _ (v := ?_) rfl rfl (by rfl) ?_ ?_; rotate_left; (· intro w' hF; go_simp; (try with_reducible rfl)); simp only [Act.put, List.setIfInBounds_toArray, List.set_cons_zero, List.set_cons_succ])
  refine seqZ_do _ rfl rfl (by rfl) (fun K1 hK1 => ?_)
  go_simp
  refine hK1.out _ _ (.inl rfl) ?_
  clear hK1 K1
  refine seqZ_done ?_
  go_wp2_with fail
  refine wp_gen (fun w1 => Arr w1 g (putRot 24 v5 d a) ∧ w.grownBy w1 (some g)) ⟨(A5.ext ((Ext.refl _).drewN (1 + k1))).set (by omega) (rotr_lt (xor_lt32 lp lq)), gr_set (gr_trans G5 (gr_ext ((Ext.refl _).drewN (1 + k1)) _)) _ _⟩ ?_
  rintro w6 ⟨A6, G6⟩
  have L6 : (putRot 24 v5 d a).length = 16 := (putRot_len ..).trans L5
  clear A5 G5 L5 cp fp lp cq fq lq KEEP u1 HR
  generalize HV5 : putRot 24 v5 d a = v6 at A6 L6
  replace HV5 := Lib.hid HV5
  obtain ⟨cp, fp, lp⟩ := A6.fct (i := c) (by omega)
  obtain ⟨cq, fq, lq⟩ := A6.fct (i := d) (by omega)
  have KEEP : Hid (∀ w', Ext w6 w' → w'.cell? ⟨g, c, none⟩ = some (.int .u32 (wd v6 c : Int)) ∧ w'.cell? ⟨g, d, none⟩ = some (.int .u32 (wd v6 d : Int))) := fun w' e => ⟨((A6.ext e).fct (by omega)).1, ((A6.ext e).fct (by omega)).1⟩
  have u1 : IntKind.u32.wrap ((wd v6 c : Int) + (wd v6 d : Int)) = (add32 (wd v6 c) (wd v6 d) : Int) := u32_add
  refine wp_region_seqZ (R := Ext) Ext.refl (fun _ _ _ => Ext.trans) 12 [0, 1, 2, 3, 4, 5, 6, 7, 8, 9, 10, 11, 12] [12] [(0, 86, 2), (0, 87, 16), (0, 88, 2), (0, 89, 16), (12, 90, 928455029464035206174343168), (16, 91, 1237940039285380274899124224), (0, 92, 2), (0, 93, 32), (192, 94, 14855280471424563298789490688), (256, 95, 19807040628566084398385987584), (544, 96, 42089961335702929346570223616), (2047, 97, 232113757366008801543585792), (4095, 0, 237684487542793012780631851008)] (by kernel_rfl) (by kernel_rfl) (by kernel_rfl) rfl (by kernel_rfl) (by kernel_rfl) (by kernel_rfl) (fun _ _ d _ _ h => by cases d <;> exact h) ?_
  repeat (refine seqZ_read _ (fun w' e => KEEP.out w' ((Ext.refl _).drew.trans e)) _ (v := ?_) rfl rfl (by rfl) ?_ ?_; rotate_left; (· intro w' hF; go_simp; (try with_reducible rfl)); simp only [Act.put, List.setIfInBounds_toArray, List.set_cons_zero, List.set_cons_succ])
  refine seqZ_do _ rfl rfl (by rfl) (fun K1 hK1 => ?_)
  go_simp
  refine hK1.out _ _ (.inl rfl) ?_
  clear hK1 K1
  refine seqZ_done ?_
  go_wp2_with fail
  refine wp_gen (fun w1 => Arr w1 g (putSum v6 c d) ∧ w.grownBy w1 (some g)) ⟨(A6.set (by omega) (add32_lt _ _)).ext (Ext.refl _).drew, grown_set G6⟩ ?_
  rintro w7 ⟨A7, G7⟩
  have L7 : (putSum v6 c d).length = 16 := (putSum_len ..).trans L6
  clear A6 G6 L6 cp fp lp cq fq lq KEEP u1
  generalize HV6 : putSum v6 c d = v7 at A7 L7
  replace HV6 := Lib.hid HV6
  obtain ⟨cp, fp, lp⟩ := A7.fct (i := b) (by omega)
  obtain ⟨cq, fq, lq⟩ := A7.fct (i := c) (by omega)
  have KEEP : Hid (∀ w', Ext w7 w' → w'.cell? ⟨g, b, none⟩ = some (.int .u32 (wd v7 b : Int)) ∧ w'.cell? ⟨g, c, none⟩ = some (.int .u32 (wd v7 c : Int))) := fun w' e => ⟨((A7.ext e).fct (by omega)).1, ((A7.ext e).fct (by omega)).1⟩
  have u1 : bits .xor .u32 (wd v7 b : Int) (wd v7 c : Int) = ((wd v7 b ^^^ wd v7 c : Nat) : Int) := u32_xor_nat _ _ lp lq
  have HR := Lib.hid (fun w0 : World => @refLeft_calls 25 (wd v7 b ^^^ wd v7 c) 7 w0 (xor_lt32 lp lq) (by omega) (by omega) (by omega))
  refine wp_region_seqZ (R := Ext) Ext.refl (fun _ _ _ => Ext.trans) 13 [0, 1, 2, 3, 4, 5, 6, 7, 8, 9, 10, 11, 12, 13] [11, 13] [(0, 98, 2), (0, 99, 8), (0, 100, 2), (0, 101, 8), (12, 102, 3802951800684688204490109616128), (16, 103, 5070602400912917605986812821504), (0, 104, 2), (0, 105, 16), (192, 106, 60847228810955011271841753858048), (256, 107, 81129638414606681695789005144064), (544, 108, 172400481631039198603551635931136), (1024, 109, 324518553658426726783156020576256), (4095, 110, 950737950171172051122527404032), (8191, 0, 1947111321950560360698936123457536)] (by kernel_rfl) (by kernel_rfl) (by kernel_rfl) rfl (by kernel_rfl) (by kernel_rfl) (by kernel_rfl) (fun _ _ d _ _ h => by cases d <;> exact h) ?_
  repeat (refine seqZ_read _ (fun w' e => KEEP.out w' ((Ext.refl _).drew.trans e)) _ (v := ?_) rfl rfl (by rfl) ?_ ?_; rotate_left; (· intro w' hF; go_simp; (try with_reducible rfl)); simp only [Act.put, List.setIfInBounds_toArray, List.set_cons_zero, List.set_cons_succ])
  refine seqZ_do _ rfl rfl (by rfl) (fun K1 hK1 => ?_)
  go_simp
  refine (HR.out _).mono ?_
  rintro e w1 ⟨rfl, k1, rfl⟩
  refine hK1.out _ _ (.inr ((Ext.refl _).drewN k1)) ?_
  clear hK1 K1
  try simp only [Act.put, List.setIfInBounds_toArray, List.set_cons_zero, List.set_cons_succ]
  repeat (refine seqZ_read _ (fun w' e => KEEP.out w' (((Ext.refl _).drew.drewN k1).trans e)) _ (v := ?_) rfl rfl (by rfl) ?_ ?_; rotate_left; (· intro w' hF; go_simp; (try with_reducible rfl)); simp only [Act.put, List.setIfInBounds_toArray, List.set_cons_zero, List.set_cons_succ])
  refine seqZ_do _ rfl rfl (by rfl) (fun K1 hK1 => ?_)
  go_simp
  refine hK1.out _ _ (.inl rfl) ?_
  clear hK1 K1
  refine seqZ_done ?_
  go_wp2_with fail
  have HM : quL vs a b c d = putRot 25 v7 b c := by
    unfold quL
    rw [HV0.out, HV1.out, HV2.out, HV3.out, HV4.out, HV5.out, HV6.out]
  rw [HM]
  go_end0
  exact ⟨rfl, (A7.ext ((Ext.refl _).drewN (1 + k1))).set (by omega) (rotr_lt (xor_lt32 lp lq)), gr_set (gr_trans G7 (gr_ext ((Ext.refl _).drewN (1 + k1)) _)) _ _⟩
end Go.Proofs.YthdjojindijmnaaDoor
