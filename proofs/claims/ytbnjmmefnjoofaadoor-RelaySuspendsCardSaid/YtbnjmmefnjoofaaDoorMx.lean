import Derived.Test.YtbnjmmefnjoofaaDoorPkI
/-
  blake.mix.
-/
namespace Go.Proofs.YtbnjmmefnjoofaaDoor
open Go.ChangeShapes Go.WideShapes Go.ChangeAt Go.RowKit Go.Deep

def putAdd (vs : List Nat) (a b x : Nat) : List Nat := vs.set a (add32 (wd vs a) (add32 (wd vs b) x))
def mixL (vs : List Nat) (a b c d x y : Nat) : List Nat :=
  putRot 7 (putSum (putRot 8 (putAdd (putRot 12 (putSum (putRot 16 (putAdd vs a b x) d a) c d) b c) a b y) d a) c d) b c
theorem putAdd_len (vs : List Nat) (a b x : Nat) : (putAdd vs a b x).length = vs.length := by simp [putAdd]
theorem mixL_len (vs : List Nat) (a b c d x y : Nat) : (mixL vs a b c d x y).length = vs.length := by simp [mixL, putAdd, putRot, putSum]

set_option maxRecDepth 100000 in
set_option maxHeartbeats 4000000 in
theorem mix_calls {g a b c d x y : Nat} {vs : List Nat} {w : World} (h : Arr w g vs) (hl : vs.length = 16) (ha : a < 16) (hb : b < 16) (hc : c < 16) (hd : d < 16) (hx : x < 4294967296) (hy : y < 4294967296) :
    Calls Tryd.prog 90 #[.pointer (some ⟨g, 0, none⟩), .int .i64 (a : Int), .int .i64 (b : Int), .int .i64 (c : Int), .int .i64 (d : Int), .int .u32 (x : Int), .int .u32 (y : Int)] w
      fun e w' => e = .returned (.tuple #[]) ∧ Arr w' g (mixL vs a b c d x y) ∧ w.grownBy w' (some g) := by
  have ha' : (a : Int) < 16 := by omega
  have hb' : (b : Int) < 16 := by omega
  have hc' : (c : Int) < 16 := by omega
  have hd' : (d : Int) < 16 := by omega
  go_enter Tryd.func90, Tryd.ntmps90
  go_wp2_with fail
  refine wp_gen (fun w1 => Arr w1 g vs ∧ w.grownBy w1 (some g)) ⟨h, gr_ext (Ext.refl _) _⟩ ?_
  rintro w0 ⟨A0, G0⟩
  have L0 := hl
  clear h
  obtain ⟨cp, fp, lp⟩ := A0.fct (i := a) (by omega)
  obtain ⟨cq, fq, lq⟩ := A0.fct (i := b) (by omega)
  have KEEP : Hid (∀ w', Ext w0 w' → w'.cell? ⟨g, a, none⟩ = some (.int .u32 (wd vs a : Int)) ∧ w'.cell? ⟨g, b, none⟩ = some (.int .u32 (wd vs b : Int))) := fun w' e => ⟨((A0.ext e).fct (by omega)).1, ((A0.ext e).fct (by omega)).1⟩
  have u1 : IntKind.u32.wrap ((wd vs b : Int) + (x : Int)) = (add32 (wd vs b) x : Int) := u32_add
  have u2 : IntKind.u32.wrap ((wd vs a : Int) + (add32 (wd vs b) x : Int)) = (add32 (wd vs a) (add32 (wd vs b) x) : Int) := u32_add
  refine qgZE 15 [0, 1, 2, 3, 4, 5, 6, 7, 8, 9, 10, 11, 12, 13, 14, 15] [15] ?_
  repeat (refine qzR _ (fun w' e => KEEP.out w' ((Ext.refl _).drew.trans e)) ?_; go_frame)
  refine qzD fun K1 hK1 => ?_
  go_simp
  refine hK1.out _ _ (.inl rfl) ?_
  clear hK1 K1
  refine seqZ_done ?_
  go_wp2_with fail
  refine wp_gen (fun w1 => Arr w1 g (putAdd vs a b x) ∧ w.grownBy w1 (some g)) ⟨(A0.set (by omega) (add32_lt _ _)).ext (Ext.refl _).drew, grown_set G0⟩ ?_
  rintro w1 ⟨A1, G1⟩
  have L1 : (putAdd vs a b x).length = 16 := (putAdd_len ..).trans L0
  clear A0 G0 L0 cp fp lp cq fq lq KEEP u1 u2
  generalize HV0 : putAdd vs a b x = v1 at A1 L1
  replace HV0 := Lib.hid HV0
  obtain ⟨cp, fp, lp⟩ := A1.fct (i := d) (by omega)
  obtain ⟨cq, fq, lq⟩ := A1.fct (i := a) (by omega)
  have KEEP : Hid (∀ w', Ext w1 w' → w'.cell? ⟨g, d, none⟩ = some (.int .u32 (wd v1 d : Int)) ∧ w'.cell? ⟨g, a, none⟩ = some (.int .u32 (wd v1 a : Int))) := fun w' e => ⟨((A1.ext e).fct (by omega)).1, ((A1.ext e).fct (by omega)).1⟩
  have u1 : bits .xor .u32 (wd v1 d : Int) (wd v1 a : Int) = ((wd v1 d ^^^ wd v1 a : Nat) : Int) := u32_xor_nat _ _ lp lq
  have HR := Lib.hid (fun w0 : World => @rot16 (wd v1 d ^^^ wd v1 a) w0 (xor_lt32 lp lq))
  refine qgZE 16 [0, 1, 2, 3, 4, 5, 6, 7, 8, 9, 10, 11, 12, 14, 13, 15, 16] [13, 16] ?_
  repeat (refine qzR _ (fun w' e => KEEP.out w' ((Ext.refl _).drew.trans e)) ?_; go_frame)
  refine qzD fun K1 hK1 => ?_
  go_simp
  refine (HR.out _).mono ?_
  rintro e w1 ⟨rfl, rfl⟩
  refine hK1.out _ _ (.inr (Ext.refl _)) ?_
  clear hK1 K1
  try go_frame
  repeat (refine qzR _ (fun w' e => KEEP.out w' ((Ext.refl _).drew.trans e)) ?_; go_frame)
  refine qzD fun K1 hK1 => ?_
  go_simp
  refine hK1.out _ _ (.inl rfl) ?_
  clear hK1 K1
  refine seqZ_done ?_
  go_wp2_with fail
  refine wp_gen (fun w1 => Arr w1 g (putRot 16 v1 d a) ∧ w.grownBy w1 (some g)) ⟨(A1.set (by omega) (rotr_lt (xor_lt32 lp lq))).ext (Ext.refl _).drew, grown_set G1⟩ ?_
  rintro w2 ⟨A2, G2⟩
  have L2 : (putRot 16 v1 d a).length = 16 := (putRot_len ..).trans L1
  clear A1 G1 L1 cp fp lp cq fq lq KEEP u1 HR
  generalize HV1 : putRot 16 v1 d a = v2 at A2 L2
  replace HV1 := Lib.hid HV1
  obtain ⟨cp, fp, lp⟩ := A2.fct (i := c) (by omega)
  obtain ⟨cq, fq, lq⟩ := A2.fct (i := d) (by omega)
  have KEEP : Hid (∀ w', Ext w2 w' → w'.cell? ⟨g, c, none⟩ = some (.int .u32 (wd v2 c : Int)) ∧ w'.cell? ⟨g, d, none⟩ = some (.int .u32 (wd v2 d : Int))) := fun w' e => ⟨((A2.ext e).fct (by omega)).1, ((A2.ext e).fct (by omega)).1⟩
  have u1 : IntKind.u32.wrap ((wd v2 c : Int) + (wd v2 d : Int)) = (add32 (wd v2 c) (wd v2 d) : Int) := u32_add
  refine qgZE 13 [0, 1, 2, 3, 4, 5, 6, 7, 8, 9, 10, 11, 12, 13] [13] ?_
  repeat (refine qzR _ (fun w' e => KEEP.out w' ((Ext.refl _).drew.trans e)) ?_; go_frame)
  refine qzD fun K1 hK1 => ?_
  go_simp
  refine hK1.out _ _ (.inl rfl) ?_
  clear hK1 K1
  refine seqZ_done ?_
  go_wp2_with fail
  refine wp_gen (fun w1 => Arr w1 g (putSum v2 c d) ∧ w.grownBy w1 (some g)) ⟨(A2.set (by omega) (add32_lt _ _)).ext (Ext.refl _).drew, grown_set G2⟩ ?_
  rintro w3 ⟨A3, G3⟩
  have L3 : (putSum v2 c d).length = 16 := (putSum_len ..).trans L2
  clear A2 G2 L2 cp fp lp cq fq lq KEEP u1
  generalize HV2 : putSum v2 c d = v3 at A3 L3
  replace HV2 := Lib.hid HV2
  obtain ⟨cp, fp, lp⟩ := A3.fct (i := b) (by omega)
  obtain ⟨cq, fq, lq⟩ := A3.fct (i := c) (by omega)
  have KEEP : Hid (∀ w', Ext w3 w' → w'.cell? ⟨g, b, none⟩ = some (.int .u32 (wd v3 b : Int)) ∧ w'.cell? ⟨g, c, none⟩ = some (.int .u32 (wd v3 c : Int))) := fun w' e => ⟨((A3.ext e).fct (by omega)).1, ((A3.ext e).fct (by omega)).1⟩
  have u1 : bits .xor .u32 (wd v3 b : Int) (wd v3 c : Int) = ((wd v3 b ^^^ wd v3 c : Nat) : Int) := u32_xor_nat _ _ lp lq
  have HR := Lib.hid (fun w0 : World => @rot12 (wd v3 b ^^^ wd v3 c) w0 (xor_lt32 lp lq))
  refine qgZE 16 [0, 1, 2, 3, 4, 5, 6, 7, 8, 9, 10, 11, 12, 14, 13, 15, 16] [13, 16] ?_
  repeat (refine qzR _ (fun w' e => KEEP.out w' ((Ext.refl _).drew.trans e)) ?_; go_frame)
  refine qzD fun K1 hK1 => ?_
  go_simp
  refine (HR.out _).mono ?_
  rintro e w1 ⟨rfl, rfl⟩
  refine hK1.out _ _ (.inr (Ext.refl _)) ?_
  clear hK1 K1
  try go_frame
  repeat (refine qzR _ (fun w' e => KEEP.out w' ((Ext.refl _).drew.trans e)) ?_; go_frame)
  refine qzD fun K1 hK1 => ?_
  go_simp
  refine hK1.out _ _ (.inl rfl) ?_
  clear hK1 K1
  refine seqZ_done ?_
  go_wp2_with fail
  refine wp_gen (fun w1 => Arr w1 g (putRot 12 v3 b c) ∧ w.grownBy w1 (some g)) ⟨(A3.set (by omega) (rotr_lt (xor_lt32 lp lq))).ext (Ext.refl _).drew, grown_set G3⟩ ?_
  rintro w4 ⟨A4, G4⟩
  have L4 : (putRot 12 v3 b c).length = 16 := (putRot_len ..).trans L3
  clear A3 G3 L3 cp fp lp cq fq lq KEEP u1 HR
  generalize HV3 : putRot 12 v3 b c = v4 at A4 L4
  replace HV3 := Lib.hid HV3
  obtain ⟨cp, fp, lp⟩ := A4.fct (i := a) (by omega)
  obtain ⟨cq, fq, lq⟩ := A4.fct (i := b) (by omega)
  have KEEP : Hid (∀ w', Ext w4 w' → w'.cell? ⟨g, a, none⟩ = some (.int .u32 (wd v4 a : Int)) ∧ w'.cell? ⟨g, b, none⟩ = some (.int .u32 (wd v4 b : Int))) := fun w' e => ⟨((A4.ext e).fct (by omega)).1, ((A4.ext e).fct (by omega)).1⟩
  have u1 : IntKind.u32.wrap ((wd v4 b : Int) + (y : Int)) = (add32 (wd v4 b) y : Int) := u32_add
  have u2 : IntKind.u32.wrap ((wd v4 a : Int) + (add32 (wd v4 b) y : Int)) = (add32 (wd v4 a) (add32 (wd v4 b) y) : Int) := u32_add
  refine qgZE 15 [0, 1, 2, 3, 4, 5, 6, 7, 8, 9, 10, 11, 12, 13, 14, 15] [15] ?_
  repeat (refine qzR _ (fun w' e => KEEP.out w' ((Ext.refl _).drew.trans e)) ?_; go_frame)
  refine qzD fun K1 hK1 => ?_
  go_simp
  refine hK1.out _ _ (.inl rfl) ?_
  clear hK1 K1
  refine seqZ_done ?_
  go_wp2_with fail
  refine wp_gen (fun w1 => Arr w1 g (putAdd v4 a b y) ∧ w.grownBy w1 (some g)) ⟨(A4.set (by omega) (add32_lt _ _)).ext (Ext.refl _).drew, grown_set G4⟩ ?_
  rintro w5 ⟨A5, G5⟩
  have L5 : (putAdd v4 a b y).length = 16 := (putAdd_len ..).trans L4
  clear A4 G4 L4 cp fp lp cq fq lq KEEP u1 u2
  generalize HV4 : putAdd v4 a b y = v5 at A5 L5
  replace HV4 := Lib.hid HV4
  obtain ⟨cp, fp, lp⟩ := A5.fct (i := d) (by omega)
  obtain ⟨cq, fq, lq⟩ := A5.fct (i := a) (by omega)
  have KEEP : Hid (∀ w', Ext w5 w' → w'.cell? ⟨g, d, none⟩ = some (.int .u32 (wd v5 d : Int)) ∧ w'.cell? ⟨g, a, none⟩ = some (.int .u32 (wd v5 a : Int))) := fun w' e => ⟨((A5.ext e).fct (by omega)).1, ((A5.ext e).fct (by omega)).1⟩
  have u1 : bits .xor .u32 (wd v5 d : Int) (wd v5 a : Int) = ((wd v5 d ^^^ wd v5 a : Nat) : Int) := u32_xor_nat _ _ lp lq
  have HR := Lib.hid (fun w0 : World => @rot8 (wd v5 d ^^^ wd v5 a) w0 (xor_lt32 lp lq))
  refine qgZE 16 [0, 1, 2, 3, 4, 5, 6, 7, 8, 9, 10, 11, 12, 14, 13, 15, 16] [13, 16] ?_
  repeat (refine qzR _ (fun w' e => KEEP.out w' ((Ext.refl _).drew.trans e)) ?_; go_frame)
  refine qzD fun K1 hK1 => ?_
  go_simp
  refine (HR.out _).mono ?_
  rintro e w1 ⟨rfl, rfl⟩
  refine hK1.out _ _ (.inr (Ext.refl _)) ?_
  clear hK1 K1
  try go_frame
  repeat (refine qzR _ (fun w' e => KEEP.out w' ((Ext.refl _).drew.trans e)) ?_; go_frame)
  refine qzD fun K1 hK1 => ?_
  go_simp
  refine hK1.out _ _ (.inl rfl) ?_
  clear hK1 K1
  refine seqZ_done ?_
  go_wp2_with fail
  refine wp_gen (fun w1 => Arr w1 g (putRot 8 v5 d a) ∧ w.grownBy w1 (some g)) ⟨(A5.set (by omega) (rotr_lt (xor_lt32 lp lq))).ext (Ext.refl _).drew, grown_set G5⟩ ?_
  rintro w6 ⟨A6, G6⟩
  have L6 : (putRot 8 v5 d a).length = 16 := (putRot_len ..).trans L5
  clear A5 G5 L5 cp fp lp cq fq lq KEEP u1 HR
  generalize HV5 : putRot 8 v5 d a = v6 at A6 L6
  replace HV5 := Lib.hid HV5
  obtain ⟨cp, fp, lp⟩ := A6.fct (i := c) (by omega)
  obtain ⟨cq, fq, lq⟩ := A6.fct (i := d) (by omega)
  have KEEP : Hid (∀ w', Ext w6 w' → w'.cell? ⟨g, c, none⟩ = some (.int .u32 (wd v6 c : Int)) ∧ w'.cell? ⟨g, d, none⟩ = some (.int .u32 (wd v6 d : Int))) := fun w' e => ⟨((A6.ext e).fct (by omega)).1, ((A6.ext e).fct (by omega)).1⟩
  have u1 : IntKind.u32.wrap ((wd v6 c : Int) + (wd v6 d : Int)) = (add32 (wd v6 c) (wd v6 d) : Int) := u32_add
  refine qgZE 13 [0, 1, 2, 3, 4, 5, 6, 7, 8, 9, 10, 11, 12, 13] [13] ?_
  repeat (refine qzR _ (fun w' e => KEEP.out w' ((Ext.refl _).drew.trans e)) ?_; go_frame)
  refine qzD fun K1 hK1 => ?_
  go_simp
  refine hK1.out _ _ (.inl rfl) ?_
  clear hK1 K1
  refine seqZ_done ?_
  go_wp2_with fail
  refine wp_gen (fun w1 => Arr w1 g (putSum v6 c d) ∧ w.grownBy w1 (some g)) ⟨(A6.set (by omega) (add32_lt _ _)).ext (Ext.refl _).drew, grown_set G6⟩ ?_
  rintro w7 ⟨A7, G7⟩
  have L7 : (putSum v6 c d).length = 16 := (putSum_len ..).trans L6
  clear A6 G6 L6 cp fp lp cq fq lq KEEP u1
  generalize HV6 : putSum v6 c d = v7 at A7 L7
  replace HV6 := Lib.hid HV6
  obtain ⟨cp, fp, lp⟩ := A7.fct (i := b) (by omega)
  obtain ⟨cq, fq, lq⟩ := A7.fct (i := c) (by omega)
  have KEEP : Hid (∀ w', Ext w7 w' → w'.cell? ⟨g, b, none⟩ = some (.int .u32 (wd v7 b : Int)) ∧ w'.cell? ⟨g, c, none⟩ = some (.int .u32 (wd v7 c : Int))) := fun w' e => ⟨((A7.ext e).fct (by omega)).1, ((A7.ext e).fct (by omega)).1⟩
  have u1 : bits .xor .u32 (wd v7 b : Int) (wd v7 c : Int) = ((wd v7 b ^^^ wd v7 c : Nat) : Int) := u32_xor_nat _ _ lp lq
  have HR := Lib.hid (fun w0 : World => @rot7 (wd v7 b ^^^ wd v7 c) w0 (xor_lt32 lp lq))
  refine qgZE 16 [0, 1, 2, 3, 4, 5, 6, 7, 8, 9, 10, 11, 12, 14, 13, 15, 16] [13, 16] ?_
  repeat (refine qzR _ (fun w' e => KEEP.out w' ((Ext.refl _).drew.trans e)) ?_; go_frame)
  refine qzD fun K1 hK1 => ?_
  go_simp
  refine (HR.out _).mono ?_
  rintro e w1 ⟨rfl, rfl⟩
  refine hK1.out _ _ (.inr (Ext.refl _)) ?_
  clear hK1 K1
  try go_frame
  repeat (refine qzR _ (fun w' e => KEEP.out w' ((Ext.refl _).drew.trans e)) ?_; go_frame)
  refine qzD fun K1 hK1 => ?_
  go_simp
  refine hK1.out _ _ (.inl rfl) ?_
  clear hK1 K1
  refine seqZ_done ?_
  go_wp2_with fail
  have HM : mixL vs a b c d x y = putRot 7 v7 b c := by
    unfold mixL
    rw [HV0.out, HV1.out, HV2.out, HV3.out, HV4.out, HV5.out, HV6.out]
  rw [HM]
  go_end0
  exact ⟨rfl, (A7.set (by omega) (rotr_lt (xor_lt32 lp lq))).ext (Ext.refl _).drew, grown_set G7⟩
end Go.Proofs.YtbnjmmefnjoofaaDoor
