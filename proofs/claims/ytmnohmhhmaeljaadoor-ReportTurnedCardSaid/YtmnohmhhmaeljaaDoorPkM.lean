import Derived.Test.YtmnohmhhmaeljaaDoorMix
import Derived.Test.YtmnohmhhmaeljaaDoorLowB
import Derived.Test.YtmnohmhhmaeljaaDoorCells
import Derived.Test.YtmnohmhhmaeljaaDoorWords
section
/-
  bits.RotateLeft32 by -16, -12, -8, -7.
-/
namespace Go.Proofs.YtmnohmhhmaeljaaDoor
open Go.ChangeShapes Go.WideShapes Go.ChangeAt Go.RowKit Go.Deep

theorem rotr_int {n x : Nat} (hn : n ≤ 32) (hx : x < 4294967296) : bits .or .u32 ((x : Int) * 2 ^ (32 - n) % 4294967296) ((x : Int) / 2 ^ n) = (rotr n x : Int) := by
  have h1 : (x : Int) * 2 ^ (32 - n) % 4294967296 = ((x * 2 ^ (32 - n) % 4294967296 : Nat) : Int) := by simp
  have h2 : (x : Int) / 2 ^ n = ((x / 2 ^ n : Nat) : Int) := by simp
  rw [h1, h2, u32_or_nat _ _ (Nat.mod_lt _ (by omega)) (Nat.lt_of_le_of_lt (Nat.div_le_self _ _) hx)]
  rfl

set_option maxHeartbeats 1000000 in
theorem rot_calls {n x : Nat} {k : Int} {w : World} (hx : x < 4294967296) (hk : bits .and .u64 (IntKind.u64.wrap k) 31 = ((32 - n : Nat) : Int)) (h1 : 1 ≤ n) (h2 : n ≤ 31) :
    Calls Tryd.prog 138 #[.int .u32 (x : Int), .int .i64 k] w fun e w' => e = .returned (.int .u32 (rotr n x : Int)) ∧ w' = w := by
  have hs : ∃ s : Nat, 32 - n = s ∧ s ≤ 31 ∧ n = 32 - s := ⟨32 - n, rfl, by omega, by omega⟩
  obtain ⟨s, e1, e2, e3⟩ := hs
  have hf := Lib.hid (rotr_int (n := n) (by omega) hx)
  rw [e1] at hk hf
  have hd : IntKind.u64.wrap (32 - (s : Int)) = (n : Int) := by rw [IntWalk.u64_in _ (by omega)]; omega
  go_enter Tryd.func138, Tryd.ntmps138
  go_wp2_with fail
  go_ret
  refine ⟨congrArg (fun v => Ending.returned (Value.int .u32 v)) (Eq.trans ?_ hf.out), rfl⟩
  rw [e3]
theorem rot16 {x : Nat} {w : World} (hx : x < 4294967296) :
    Calls Tryd.prog 138 #[.int .u32 (x : Int), .int .i64 (-16)] w fun e w' => e = .returned (.int .u32 (rotr 16 x : Int)) ∧ w' = w := rot_calls hx (by decide) (by omega) (by omega)
theorem rot12 {x : Nat} {w : World} (hx : x < 4294967296) :
    Calls Tryd.prog 138 #[.int .u32 (x : Int), .int .i64 (-12)] w fun e w' => e = .returned (.int .u32 (rotr 12 x : Int)) ∧ w' = w := rot_calls hx (by decide) (by omega) (by omega)
theorem rot8 {x : Nat} {w : World} (hx : x < 4294967296) :
    Calls Tryd.prog 138 #[.int .u32 (x : Int), .int .i64 (-8)] w fun e w' => e = .returned (.int .u32 (rotr 8 x : Int)) ∧ w' = w := rot_calls hx (by decide) (by omega) (by omega)
theorem rot7 {x : Nat} {w : World} (hx : x < 4294967296) :
    Calls Tryd.prog 138 #[.int .u32 (x : Int), .int .i64 (-7)] w fun e w' => e = .returned (.int .u32 (rotr 7 x : Int)) ∧ w' = w := rot_calls hx (by decide) (by omega) (by omega)
theorem rotl16 {x : Nat} {w : World} (hx : x < 4294967296) :
    Calls Tryd.prog 138 #[.int .u32 (x : Int), .int .i64 16] w fun e w' => e = .returned (.int .u32 (rotr 16 x : Int)) ∧ w' = w := rot_calls hx (by decide) (by omega) (by omega)
theorem rotl12 {x : Nat} {w : World} (hx : x < 4294967296) :
    Calls Tryd.prog 138 #[.int .u32 (x : Int), .int .i64 12] w fun e w' => e = .returned (.int .u32 (rotr 20 x : Int)) ∧ w' = w := rot_calls hx (by decide) (by omega) (by omega)
theorem rotl8 {x : Nat} {w : World} (hx : x < 4294967296) :
    Calls Tryd.prog 138 #[.int .u32 (x : Int), .int .i64 8] w fun e w' => e = .returned (.int .u32 (rotr 24 x : Int)) ∧ w' = w := rot_calls hx (by decide) (by omega) (by omega)
theorem rotl7 {x : Nat} {w : World} (hx : x < 4294967296) :
    Calls Tryd.prog 138 #[.int .u32 (x : Int), .int .i64 7] w fun e w' => e = .returned (.int .u32 (rotr 25 x : Int)) ∧ w' = w := rot_calls hx (by decide) (by omega) (by omega)
end Go.Proofs.YtmnohmhhmaeljaaDoor
end

section
/-
  blake.mix.
-/
namespace Go.Proofs.YtmnohmhhmaeljaaDoor
open Go.ChangeShapes Go.WideShapes Go.ChangeAt Go.RowKit Go.Deep

def putAdd (vs : List Nat) (a b x : Nat) : List Nat := vs.set a (add32 (wd vs a) (add32 (wd vs b) x))
def mixL (vs : List Nat) (a b c d x y : Nat) : List Nat :=
  putRot 7 (putSum (putRot 8 (putAdd (putRot 12 (putSum (putRot 16 (putAdd vs a b x) d a) c d) b c) a b y) d a) c d) b c
theorem putAdd_len (vs : List Nat) (a b x : Nat) : (putAdd vs a b x).length = vs.length := by simp [putAdd]
theorem mixL_len (vs : List Nat) (a b c d x y : Nat) : (mixL vs a b c d x y).length = vs.length := by simp [mixL, putAdd, putRot, putSum]

set_option maxRecDepth 100000 in
set_option maxHeartbeats 4000000 in
theorem mix_calls {g a b c d x y : Nat} {vs : List Nat} {w : World} (h : Arr w g vs) (hl : vs.length = 16) (ha : a < 16) (hb : b < 16) (hc : c < 16) (hd : d < 16) (hx : x < 4294967296) (hy : y < 4294967296) :
    Calls Tryd.prog 130 #[.pointer (some ⟨g, 0, none⟩), .int .i64 (a : Int), .int .i64 (b : Int), .int .i64 (c : Int), .int .i64 (d : Int), .int .u32 (x : Int), .int .u32 (y : Int)] w
      fun e w' => e = .returned (.tuple #[]) ∧ Arr w' g (mixL vs a b c d x y) ∧ w.grownBy w' (some g) := by
  have ha' : (a : Int) < 16 := by omega
  have hb' : (b : Int) < 16 := by omega
  have hc' : (c : Int) < 16 := by omega
  have hd' : (d : Int) < 16 := by omega
  go_enter Tryd.func130, Tryd.ntmps130
  go_wp2_with fail
  refine wp_gen (fun w1 => Arr w1 g vs ∧ w.grownBy w1 (some g)) ⟨h, gr_ext (Ext.refl _) _⟩ ?_
  rintro w0 ⟨A0, G0⟩
  have L0 := hl
  clear h
  obtain ⟨cp, fp, lp⟩ := A0.fct (i := a) (by omega)
  obtain ⟨cq, fq, lq⟩ := A0.fct (i := b) (by omega)
  have KEEP : Hid (∀ w', Ext w0 w' → w'.cell? ⟨g, a, none⟩ = some (.int .u32 (wd vs a : Int)) ∧ w'.cell? ⟨g, b, none⟩ = some (.int .u32 (wd vs b : Int))) := fun w' e => ⟨((A0.ext e).fct (by omega)).1, ((A0.ext e).fct (by omega)).1⟩
  have u1 : IntKind.u32.wrap ((wd vs b : Int) + (x : Int)) = (add32 (wd vs b) x : Int) := u32_add
  have u2 : IntKind.u32.wrap ((wd vs a : Int) + (add32 (wd vs b) x : Int)) = (add32 (wd vs a) (add32 (wd vs b) x) : Int) := u32_add
  refine qgZE 15 [0, 1, 2, 3, 4, 5, 6, 7, 8, 9, 10, 11, 12, 13, 14, 15] [15] ?_
  repeat (refine qzR _ (fun w' e => KEEP.out w' ((Ext.refl _).drew.trans e)) ?_; go_frame)
  refine qzD fun K1 hK1 => ?_
  go_simp
  refine hK1.out _ _ (.inl rfl) ?_
  clear hK1 K1
  refine seqZ_done ?_
  go_wp2_with fail
  refine wp_gen (fun w1 => Arr w1 g (putAdd vs a b x) ∧ w.grownBy w1 (some g)) ⟨(A0.set (by omega) (add32_lt _ _)).ext (Ext.refl _).drew, grown_set G0⟩ ?_
  rintro w1 ⟨A1, G1⟩
  have L1 : (putAdd vs a b x).length = 16 := (putAdd_len ..).trans L0
  clear A0 G0 L0 cp fp lp cq fq lq KEEP u1 u2
  generalize HV0 : putAdd vs a b x = v1 at A1 L1
  replace HV0 := Lib.hid HV0
  obtain ⟨cp, fp, lp⟩ := A1.fct (i := d) (by omega)
  obtain ⟨cq, fq, lq⟩ := A1.fct (i := a) (by omega)
  have KEEP : Hid (∀ w', Ext w1 w' → w'.cell? ⟨g, d, none⟩ = some (.int .u32 (wd v1 d : Int)) ∧ w'.cell? ⟨g, a, none⟩ = some (.int .u32 (wd v1 a : Int))) := fun w' e => ⟨((A1.ext e).fct (by omega)).1, ((A1.ext e).fct (by omega)).1⟩
  have u1 : bits .xor .u32 (wd v1 d : Int) (wd v1 a : Int) = ((wd v1 d ^^^ wd v1 a : Nat) : Int) := u32_xor_nat _ _ lp lq
  have HR := Lib.hid (fun w0 : World => @rot16 (wd v1 d ^^^ wd v1 a) w0 (xor_lt32 lp lq))
  refine qgZE 16 [0, 1, 2, 3, 4, 5, 6, 7, 8, 9, 10, 11, 12, 14, 13, 15, 16] [13, 16] ?_
  repeat (refine qzR _ (fun w' e => KEEP.out w' ((Ext.refl _).drew.trans e)) ?_; go_frame)
  refine qzD fun K1 hK1 => ?_
  go_simp
  refine (HR.out _).mono ?_
  rintro e w1 ⟨rfl, rfl⟩
  refine hK1.out _ _ (.inr (Ext.refl _)) ?_
  clear hK1 K1
  try go_frame
  repeat (refine qzR _ (fun w' e => KEEP.out w' ((Ext.refl _).drew.trans e)) ?_; go_frame)
  refine qzD fun K1 hK1 => ?_
  go_simp
  refine hK1.out _ _ (.inl rfl) ?_
  clear hK1 K1
  refine seqZ_done ?_
  go_wp2_with fail
  refine wp_gen (fun w1 => Arr w1 g (putRot 16 v1 d a) ∧ w.grownBy w1 (some g)) ⟨(A1.set (by omega) (rotr_lt (xor_lt32 lp lq))).ext (Ext.refl _).drew, grown_set G1⟩ ?_
  rintro w2 ⟨A2, G2⟩
  have L2 : (putRot 16 v1 d a).length = 16 := (putRot_len ..).trans L1
  clear A1 G1 L1 cp fp lp cq fq lq KEEP u1 HR
  generalize HV1 : putRot 16 v1 d a = v2 at A2 L2
  replace HV1 := Lib.hid HV1
  obtain ⟨cp, fp, lp⟩ := A2.fct (i := c) (by omega)
  obtain ⟨cq, fq, lq⟩ := A2.fct (i := d) (by omega)
  have KEEP : Hid (∀ w', Ext w2 w' → w'.cell? ⟨g, c, none⟩ = some (.int .u32 (wd v2 c : Int)) ∧ w'.cell? ⟨g, d, none⟩ = some (.int .u32 (wd v2 d : Int))) := fun w' e => ⟨((A2.ext e).fct (by omega)).1, ((A2.ext e).fct (by omega)).1⟩
  have u1 : IntKind.u32.wrap ((wd v2 c : Int) + (wd v2 d : Int)) = (add32 (wd v2 c) (wd v2 d) : Int) := u32_add
  refine qgZE 13 [0, 1, 2, 3, 4, 5, 6, 7, 8, 9, 10, 11, 12, 13] [13] ?_
  repeat (refine qzR _ (fun w' e => KEEP.out w' ((Ext.refl _).drew.trans e)) ?_; go_frame)
  refine qzD fun K1 hK1 => ?_
  go_simp
  refine hK1.out _ _ (.inl rfl) ?_
  clear hK1 K1
  refine seqZ_done ?_
  go_wp2_with fail
  refine wp_gen (fun w1 => Arr w1 g (putSum v2 c d) ∧ w.grownBy w1 (some g)) ⟨(A2.set (by omega) (add32_lt _ _)).ext (Ext.refl _).drew, grown_set G2⟩ ?_
  rintro w3 ⟨A3, G3⟩
  have L3 : (putSum v2 c d).length = 16 := (putSum_len ..).trans L2
  clear A2 G2 L2 cp fp lp cq fq lq KEEP u1
  generalize HV2 : putSum v2 c d = v3 at A3 L3
  replace HV2 := Lib.hid HV2
  obtain ⟨cp, fp, lp⟩ := A3.fct (i := b) (by omega)
  obtain ⟨cq, fq, lq⟩ := A3.fct (i := c) (by omega)
  have KEEP : Hid (∀ w', Ext w3 w' → w'.cell? ⟨g, b, none⟩ = some (.int .u32 (wd v3 b : Int)) ∧ w'.cell? ⟨g, c, none⟩ = some (.int .u32 (wd v3 c : Int))) := fun w' e => ⟨((A3.ext e).fct (by omega)).1, ((A3.ext e).fct (by omega)).1⟩
  have u1 : bits .xor .u32 (wd v3 b : Int) (wd v3 c : Int) = ((wd v3 b ^^^ wd v3 c : Nat) : Int) := u32_xor_nat _ _ lp lq
  have HR := Lib.hid (fun w0 : World => @rot12 (wd v3 b ^^^ wd v3 c) w0 (xor_lt32 lp lq))
  refine qgZE 16 [0, 1, 2, 3, 4, 5, 6, 7, 8, 9, 10, 11, 12, 14, 13, 15, 16] [13, 16] ?_
  repeat (refine qzR _ (fun w' e => KEEP.out w' ((Ext.refl _).drew.trans e)) ?_; go_frame)
  refine qzD fun K1 hK1 => ?_
  go_simp
  refine (HR.out _).mono ?_
  rintro e w1 ⟨rfl, rfl⟩
  refine hK1.out _ _ (.inr (Ext.refl _)) ?_
  clear hK1 K1
  try go_frame
  repeat (refine qzR _ (fun w' e => KEEP.out w' ((Ext.refl _).drew.trans e)) ?_; go_frame)
  refine qzD fun K1 hK1 => ?_
  go_simp
  refine hK1.out _ _ (.inl rfl) ?_
  clear hK1 K1
  refine seqZ_done ?_
  go_wp2_with fail
  refine wp_gen (fun w1 => Arr w1 g (putRot 12 v3 b c) ∧ w.grownBy w1 (some g)) ⟨(A3.set (by omega) (rotr_lt (xor_lt32 lp lq))).ext (Ext.refl _).drew, grown_set G3⟩ ?_
  rintro w4 ⟨A4, G4⟩
  have L4 : (putRot 12 v3 b c).length = 16 := (putRot_len ..).trans L3
  clear A3 G3 L3 cp fp lp cq fq lq KEEP u1 HR
  generalize HV3 : putRot 12 v3 b c = v4 at A4 L4
  replace HV3 := Lib.hid HV3
  obtain ⟨cp, fp, lp⟩ := A4.fct (i := a) (by omega)
  obtain ⟨cq, fq, lq⟩ := A4.fct (i := b) (by omega)
  have KEEP : Hid (∀ w', Ext w4 w' → w'.cell? ⟨g, a, none⟩ = some (.int .u32 (wd v4 a : Int)) ∧ w'.cell? ⟨g, b, none⟩ = some (.int .u32 (wd v4 b : Int))) := fun w' e => ⟨((A4.ext e).fct (by omega)).1, ((A4.ext e).fct (by omega)).1⟩
  have u1 : IntKind.u32.wrap ((wd v4 b : Int) + (y : Int)) = (add32 (wd v4 b) y : Int) := u32_add
  have u2 : IntKind.u32.wrap ((wd v4 a : Int) + (add32 (wd v4 b) y : Int)) = (add32 (wd v4 a) (add32 (wd v4 b) y) : Int) := u32_add
  refine qgZE 15 [0, 1, 2, 3, 4, 5, 6, 7, 8, 9, 10, 11, 12, 13, 14, 15] [15] ?_
  repeat (refine qzR _ (fun w' e => KEEP.out w' ((Ext.refl _).drew.trans e)) ?_; go_frame)
  refine qzD fun K1 hK1 => ?_
  go_simp
  refine hK1.out _ _ (.inl rfl) ?_
  clear hK1 K1
  refine seqZ_done ?_
  go_wp2_with fail
  refine wp_gen (fun w1 => Arr w1 g (putAdd v4 a b y) ∧ w.grownBy w1 (some g)) ⟨(A4.set (by omega) (add32_lt _ _)).ext (Ext.refl _).drew, grown_set G4⟩ ?_
  rintro w5 ⟨A5, G5⟩
  have L5 : (putAdd v4 a b y).length = 16 := (putAdd_len ..).trans L4
  clear A4 G4 L4 cp fp lp cq fq lq KEEP u1 u2
  generalize HV4 : putAdd v4 a b y = v5 at A5 L5
  replace HV4 := Lib.hid HV4
  obtain ⟨cp, fp, lp⟩ := A5.fct (i := d) (by omega)
  obtain ⟨cq, fq, lq⟩ := A5.fct (i := a) (by omega)
  have KEEP : Hid (∀ w', Ext w5 w' → w'.cell? ⟨g, d, none⟩ = some (.int .u32 (wd v5 d : Int)) ∧ w'.cell? ⟨g, a, none⟩ = some (.int .u32 (wd v5 a : Int))) := fun w' e => ⟨((A5.ext e).fct (by omega)).1, ((A5.ext e).fct (by omega)).1⟩
  have u1 : bits .xor .u32 (wd v5 d : Int) (wd v5 a : Int) = ((wd v5 d ^^^ wd v5 a : Nat) : Int) := u32_xor_nat _ _ lp lq
  have HR := Lib.hid (fun w0 : World => @rot8 (wd v5 d ^^^ wd v5 a) w0 (xor_lt32 lp lq))
  refine qgZE 16 [0, 1, 2, 3, 4, 5, 6, 7, 8, 9, 10, 11, 12, 14, 13, 15, 16] [13, 16] ?_
  repeat (refine qzR _ (fun w' e => KEEP.out w' ((Ext.refl _).drew.trans e)) ?_; go_frame)
  refine qzD fun K1 hK1 => ?_
  go_simp
  refine (HR.out _).mono ?_
  rintro e w1 ⟨rfl, rfl⟩
  refine hK1.out _ _ (.inr (Ext.refl _)) ?_
  clear hK1 K1
  try go_frame
  repeat (refine qzR _ (fun w' e => KEEP.out w' ((Ext.refl _).drew.trans e)) ?_; go_frame)
  refine qzD fun K1 hK1 => ?_
  go_simp
  refine hK1.out _ _ (.inl rfl) ?_
  clear hK1 K1
  refine seqZ_done ?_
  go_wp2_with fail
  refine wp_gen (fun w1 => Arr w1 g (putRot 8 v5 d a) ∧ w.grownBy w1 (some g)) ⟨(A5.set (by omega) (rotr_lt (xor_lt32 lp lq))).ext (Ext.refl _).drew, grown_set G5⟩ ?_
  rintro w6 ⟨A6, G6⟩
  have L6 : (putRot 8 v5 d a).length = 16 := (putRot_len ..).trans L5
  clear A5 G5 L5 cp fp lp cq fq lq KEEP u1 HR
  generalize HV5 : putRot 8 v5 d a = v6 at A6 L6
  replace HV5 := Lib.hid HV5
  obtain ⟨cp, fp, lp⟩ := A6.fct (i := c) (by omega)
  obtain ⟨cq, fq, lq⟩ := A6.fct (i := d) (by omega)
  have KEEP : Hid (∀ w', Ext w6 w' → w'.cell? ⟨g, c, none⟩ = some (.int .u32 (wd v6 c : Int)) ∧ w'.cell? ⟨g, d, none⟩ = some (.int .u32 (wd v6 d : Int))) := fun w' e => ⟨((A6.ext e).fct (by omega)).1, ((A6.ext e).fct (by omega)).1⟩
  have u1 : IntKind.u32.wrap ((wd v6 c : Int) + (wd v6 d : Int)) = (add32 (wd v6 c) (wd v6 d) : Int) := u32_add
  refine qgZE 13 [0, 1, 2, 3, 4, 5, 6, 7, 8, 9, 10, 11, 12, 13] [13] ?_
  repeat (refine qzR _ (fun w' e => KEEP.out w' ((Ext.refl _).drew.trans e)) ?_; go_frame)
  refine qzD fun K1 hK1 => ?_
  go_simp
  refine hK1.out _ _ (.inl rfl) ?_
  clear hK1 K1
  refine seqZ_done ?_
  go_wp2_with fail
  refine wp_gen (fun w1 => Arr w1 g (putSum v6 c d) ∧ w.grownBy w1 (some g)) ⟨(A6.set (by omega) (add32_lt _ _)).ext (Ext.refl _).drew, grown_set G6⟩ ?_
  rintro w7 ⟨A7, G7⟩
  have L7 : (putSum v6 c d).length = 16 := (putSum_len ..).trans L6
  clear A6 G6 L6 cp fp lp cq fq lq KEEP u1
  generalize HV6 : putSum v6 c d = v7 at A7 L7
  replace HV6 := Lib.hid HV6
  obtain ⟨cp, fp, lp⟩ := A7.fct (i := b) (by omega)
  obtain ⟨cq, fq, lq⟩ := A7.fct (i := c) (by omega)
  have KEEP : Hid (∀ w', Ext w7 w' → w'.cell? ⟨g, b, none⟩ = some (.int .u32 (wd v7 b : Int)) ∧ w'.cell? ⟨g, c, none⟩ = some (.int .u32 (wd v7 c : Int))) := fun w' e => ⟨((A7.ext e).fct (by omega)).1, ((A7.ext e).fct (by omega)).1⟩
  have u1 : bits .xor .u32 (wd v7 b : Int) (wd v7 c : Int) = ((wd v7 b ^^^ wd v7 c : Nat) : Int) := u32_xor_nat _ _ lp lq
  have HR := Lib.hid (fun w0 : World => @rot7 (wd v7 b ^^^ wd v7 c) w0 (xor_lt32 lp lq))
  refine qgZE 16 [0, 1, 2, 3, 4, 5, 6, 7, 8, 9, 10, 11, 12, 14, 13, 15, 16] [13, 16] ?_
  repeat (refine qzR _ (fun w' e => KEEP.out w' ((Ext.refl _).drew.trans e)) ?_; go_frame)
  refine qzD fun K1 hK1 => ?_
  go_simp
  refine (HR.out _).mono ?_
  rintro e w1 ⟨rfl, rfl⟩
  refine hK1.out _ _ (.inr (Ext.refl _)) ?_
  clear hK1 K1
  try go_frame
  repeat (refine qzR _ (fun w' e => KEEP.out w' ((Ext.refl _).drew.trans e)) ?_; go_frame)
  refine qzD fun K1 hK1 => ?_
  go_simp
  refine hK1.out _ _ (.inl rfl) ?_
  clear hK1 K1
  refine seqZ_done ?_
  go_wp2_with fail
  have HM : mixL vs a b c d x y = putRot 7 v7 b c := by
    unfold mixL
    rw [HV0.out, HV1.out, HV2.out, HV3.out, HV4.out, HV5.out, HV6.out]
  rw [HM]
  go_end0
  exact ⟨rfl, (A7.set (by omega) (rotr_lt (xor_lt32 lp lq))).ext (Ext.refl _).drew, grown_set G7⟩
end Go.Proofs.YtmnohmhhmaeljaaDoor
end

section
/-
  blake.padded.
-/
namespace Go.Proofs.YtmnohmhhmaeljaaDoor
open Go.ChangeShapes Go.WideShapes Go.ChangeAt Go.RowKit Go.Deep

def padL (xs : List UInt8) : List UInt8 := xs ++ List.replicate (64 - xs.length) 0
theorem padL_len {xs : List UInt8} (h : xs.length ≤ 64) : (padL xs).length = 64 := by simp [padL]; omega
theorem splice_pad {xs : List UInt8} : splice (List.replicate 64 (Value.int .u8 0)) 0 (cellsOf xs) = cellsOf (padL xs) := by
  have hb : ∀ j, (if j < xs.length then Value.int .u8 (bt xs j : Int) else .int .u8 0) = .int .u8 (bt (padL xs) j : Int) := fun j => by
    by_cases q : j < xs.length
    · simp [q, bt, padL, List.getD, List.getElem?_append]
    · rw [if_neg q]
      unfold bt padL
      simp only [List.getD, List.getElem?_append, if_neg q, List.getElem?_replicate]
      split <;> rfl
  unfold splice
  simp only [List.take_zero, List.nil_append, Nat.zero_add, List.drop_replicate, cellsOf_len]
  apply List.ext_getElem?
  intro j
  rw [List.getElem?_append, cellsOf_len]
  by_cases q : j < xs.length
  · rw [if_pos q, cellsOf_get q, cellsOf_get (by simp [padL]; omega)]
    have := hb j
    rw [if_pos q] at this
    rw [this]
  · rw [if_neg q, List.getElem?_replicate]
    by_cases q2 : j - xs.length < 64 - xs.length
    · have := hb j
      rw [if_neg q] at this
      rw [if_pos q2, cellsOf_get (by simp [padL]; omega), this]
    · rw [if_neg q2, List.getElem?_eq_none (by rw [cellsOf_len]; simp [padL]; omega)]
set_option maxRecDepth 100000 in
set_option maxHeartbeats 1000000 in
theorem padded_calls {A : Option Addr} {n c : Nat} {xs : List UInt8} {w : World} (h : Bs w A n c xs) (hn : n ≤ 64) :
    Calls Tryd.prog 112 #[.slice A n c] w fun e w' => e = .returned (.agg (cellsOf (padL xs)).toArray) ∧ Ext w w' := by
  go_enter Tryd.func112, Tryd.ntmps112
  go_wp2_with fail
  refine upon_copy (cur := List.replicate 64 (Value.int .u8 0)) rfl (heap_alloc2 _ _ _) (h.ext (((Ext.refl _).alloc _).alloc _)) hn (by simp; omega) ?_
  intro W' h1 h2
  have hE : Hid (Ext w W') := Below.trans (((Ext.refl _).alloc _).alloc _) (h2.out w.heap.size (by omega))
  have h0 : Hid (W'.heap[w.heap.size]? = some (.cells (List.replicate 64 (Value.int .u8 0)).toArray 173 (0, 0))) := ((h2.out (w.heap.size + 1) (Nat.le_refl _)).block w.heap.size (by omega)).trans (heap_alloc1 _ _ _)
  clear h2
  rw [splice_pad] at h1
  have hlen : (cellsOf (padL xs)).toArray.size = 64 := by simp [cellsOf_len, padL_len (xs := xs) (by rw [h.len]; exact hn)]
  have hone : (cellsOf (padL xs)).toArray.all (·.oneCell') = true := cellsOf_one _
  generalize hC : (cellsOf (padL xs)).toArray = C at h1 hlen hone
  replace hC := Lib.hid hC
  go_wp2_with (first
    | refine wpList_load_row rfl 173 _ rfl (w.heap.size + 1) rfl 173 C (0, 0) _ h1.out rfl rfl (by rw [hlen]; rfl) ?_
    | refine wpList_store_row rfl 173 _ _ rfl w.heap.size C rfl rfl 173 _ h0.out (by rw [hlen]; rfl) (by rw [hlen]; rfl) hone ?_)
  (try simp only [Exit.inBlock, Exit.then])
  refine bodyPost_ret (results_cell_row rfl _ _ w.heap.size 173 C (0, 0) _ rfl (setRow_heap W' _ _ _ _ _ h0.out) rfl rfl (by rw [hlen]; rfl)) rfl ?_
  exact ⟨by rw [hC.out], below_setRow hE.out (Nat.le_refl _) _⟩
end Go.Proofs.YtmnohmhhmaeljaaDoor
end

section
/-
  blake.wordsOf.
-/
namespace Go.Proofs.YtmnohmhhmaeljaaDoor
open Go.ChangeShapes Go.WideShapes Go.ChangeAt Go.RowKit Go.Deep
set_option maxRecDepth 100000

/-- The words of bytes. -/
def wordAt (xs : List UInt8) (i : Nat) : Nat := ofLowL ((xs.drop (4 * i)).take 4)
theorem wordAt_lt (xs : List UInt8) (i : Nat) : wordAt xs i < 4294967296 := by
  have h := ofLowL_lt ((xs.drop (4 * i)).take 4)
  have hl : ((xs.drop (4 * i)).take 4).length ≤ 4 := by simp; omega
  exact Nat.lt_of_lt_of_le h (Nat.le_trans (Nat.pow_le_pow_right (by omega) hl) (by decide))
def wordsL (xs : List UInt8) (n : Nat) : List Nat := (List.range n).map (wordAt xs)
theorem slice4 {w : World} {g k : Nat} (hk : k < 16) : (Instr.sliceAt 173 (.pointer (some ⟨g, 0, none⟩)) (some (.int .i64 (4 * (k : Int)))) (some (.int .i64 (4 * (k : Int) + 4))) none).run Tryd.prog w = .ok (.slice (some ⟨g, 4 * k, none⟩) 4 (64 - 4 * k)) w := by
  have hn : Tryd.prog.arrayLen 173 = 64 := rfl
  rw [run_sliceAt_array_lh w 173 _ rfl .i64 .i64 _ _ (by omega) (by omega) (by rw [hn]; omega)]
  have hs : (sizeOf (Tryd.prog.elem 173)).run Tryd.prog w = .ok 1 w := rfl
  rw [hs]
  have h1 : (4 * (k : Int)).toNat = 4 * k := by omega
  have h2 : (4 * (k : Int) + 4).toNat = 4 * k + 4 := by omega
  have h3 : (⟨g, 0, none⟩ : Addr).add (4 * k * 1) = ⟨g, 4 * k, none⟩ := by unfold Addr.add; split <;> simp_all
  show Result.ok (slicedAt _ _ _ _ _) w = _
  rw [hn, h1, h2]
  unfold slicedAt
  rw [if_neg (by omega), h3, show 4 * k + 4 - 4 * k = 4 by omega]
theorem words_all {vs : List Nat} {xs : List UInt8} {n : Nat} (hl : vs.length = n) (h : ∀ j, j < n → wd vs j = wordAt xs j) : wordsL xs n = vs := by
  refine List.ext_getElem (by simp [wordsL, hl]) fun j h1 h2 => ?_
  have := h j (by omega)
  unfold wd at this
  simp only [wordsL, List.getElem_map, List.getElem_range]
  rw [← this]
  simp [List.getD, h2]

set_option maxRecDepth 100000 in
set_option maxHeartbeats 1000000 in
theorem wordsOf_calls {xs : List UInt8} {w : World} (h : xs.length = 64) :
    Calls Tryd.prog 128 #[.agg (cellsOf xs).toArray] w fun e w' => e = .returned (.agg (wcells (wordsL xs 16)).toArray) ∧ Ext w w' := by
  go_enter Tryd.func128, Tryd.ntmps128
  go_wp2_with fail
  go_loopw [5] (fun i wr => ∃ (k : Nat) (vs : List Nat), k ≤ 16 ∧ i = .int .i64 k ∧ vs.length = 16 ∧ (∀ j, j < k → wd vs j = wordAt xs j) ∧ Ext w wr ∧ wr.heap[w.heap.size]? = some (.cells (cellsOf xs).toArray 173 (0, 0)) ∧ Wr wr (w.heap.size + 1) 196 (List.replicate 16 0) ∧ Wr wr (w.heap.size + 1 + 1) 196 vs) (fun i _ => 16 - (intOf i).toNat)
  case atStart =>
    exact ⟨0, List.replicate 16 0, Nat.zero_le _, rfl, rfl, fun j hj => absurd hj (by omega), (((Ext.refl _).alloc _).alloc _).alloc _, heap_alloc30 _ _ _ _, heap_alloc31 _ _ _ _, heap_alloc32 _ _ _ _⟩
  case round =>
    obtain ⟨k, vs, hk, rfl, hl, hv, he, h0, h1, h2⟩ := hrel
    by_cases hlt : k < 16
    · have g3 := h2.cell (i := k) (by omega)
      have g4 := h2.frozen k
      have hsl : (Instr.sliceAt 173 (.pointer (some ⟨w.heap.size, 0, none⟩)) (some (.int .i64 (4 * (k : Int)))) (some (.int .i64 (4 * (k : Int) + 4))) none).run Tryd.prog wr = .ok (.slice (some ⟨w.heap.size, 4 * k, none⟩) 4 (64 - 4 * k)) wr := slice4 hlt
      have HC := Lib.hid (ofLow_calls (m := 4) (Bs.part h0 (o := 4 * k) (n := 4) (c := 64 - 4 * k) (by omega) (by omega) (by omega)) (by omega) (by omega) (by decide))
      have hcv : IntKind.u32.wrap (ofLowL (((xs.drop (4 * k)).take 4).take 4) : Int) = (wordAt xs k : Int) := by
        rw [List.take_take, IntKind.wrap_u32]
        have := wordAt_lt xs k
        show (wordAt xs k : Int) % 4294967296 = _
        omega
      go_wp2_with fail
      refine HC.out.mono ?_
      rintro e w1 ⟨rfl, rfl⟩
      go_wp2_with fail
      refine ⟨⟨k + 1, vs.set k (wordAt xs k), by omega, by go_num, by rw [List.length_set]; exact hl, fun j hj => ?_, he.setCell (by show w.heap.size ≤ w.heap.size + 1 + 1; omega) _, ?_, ?_, h2.set⟩, by simp [intOf]; omega⟩
      · rw [wd_set (by omega)]
        by_cases q : j = k
        · rw [if_pos q, q]
        · rw [if_neg q]; exact hv j (by omega)
      · exact (Below.heap_setCell _ _ _ _ (by show w.heap.size ≠ w.heap.size + 1 + 1; omega)).trans h0
      · exact (Below.heap_setCell _ _ _ _ (by show w.heap.size + 1 ≠ w.heap.size + 1 + 1; omega)).trans h1
    · obtain rfl : k = 16 := by omega
      have hvs := Lib.hid (words_all hl hv)
      have HL := wcells_size hl
      have hone := wcells_one vs
      unfold Wr at h1 h2
      generalize hC : (wcells vs).toArray = C at h2 HL hone
      replace h1 := Lib.hid h1
      replace h2 := Lib.hid h2
      go_wp2_with (first
        | refine wpList_load_row rfl 196 _ rfl (w.heap.size + 1 + 1) rfl 196 C (0, 0) _ h2.out rfl rfl (by rw [HL]; rfl) ?_
        | refine wpList_store_row rfl 196 _ _ rfl (w.heap.size + 1) C rfl rfl 196 _ h1.out (by rw [HL]; rfl) (by rw [HL]; rfl) hone ?_)
      (try simp only [Exit.inBlock, Exit.then])
      refine bodyPost_ret (results_cell_row rfl _ _ (w.heap.size + 1) 196 C (0, 0) _ rfl (setRow_heap _ _ _ _ _ _ h1.out) rfl rfl (by rw [HL]; rfl)) rfl ?_
      exact ⟨by rw [hvs.out, hC], below_setRow he (by omega) _⟩
end Go.Proofs.YtmnohmhhmaeljaaDoor
end

section
/-
  blake.permutations.
-/
namespace Go.Proofs.YtmnohmhhmaeljaaDoor
open Go.ChangeShapes Go.WideShapes Go.ChangeAt Go.RowKit Go.Deep

def permL : List (List Nat) := [
  [0, 1, 2, 3, 4, 5, 6, 7, 8, 9, 10, 11, 12, 13, 14, 15],
  [14, 10, 4, 8, 9, 15, 13, 6, 1, 12, 0, 2, 11, 7, 5, 3],
  [11, 8, 12, 0, 5, 2, 15, 13, 10, 14, 3, 6, 7, 1, 9, 4],
  [7, 9, 3, 1, 13, 12, 11, 14, 2, 6, 5, 10, 4, 0, 15, 8],
  [9, 0, 5, 7, 2, 4, 10, 15, 14, 1, 11, 12, 6, 8, 3, 13],
  [2, 12, 6, 10, 0, 11, 8, 3, 4, 13, 7, 5, 15, 14, 1, 9],
  [12, 5, 1, 15, 14, 13, 4, 10, 0, 7, 6, 3, 9, 2, 8, 11],
  [13, 11, 7, 14, 12, 1, 3, 9, 5, 0, 15, 4, 8, 6, 2, 10],
  [6, 15, 14, 9, 11, 3, 0, 8, 12, 2, 13, 7, 1, 4, 10, 5],
  [10, 2, 8, 4, 7, 6, 1, 5, 15, 11, 9, 14, 3, 12, 13, 0]]
def permC : Array Value := ((permL.flatten).map fun x : Nat => Value.int .u8 (x : Int)).toArray

set_option maxRecDepth 100000 in
set_option maxHeartbeats 1000000 in
theorem perm_calls {w : World} :
    Calls Tryd.prog 129 #[] w fun e w' => e = .returned (.agg permC) ∧ Ext w w' := by
  have hz : ∀ w, (zeroValue 200).run Tryd.prog w = .ok (.agg (Array.replicate 160 (.int .u8 0))) w := fun _ => by kernel_rfl
  have hg := Lib.hid (heap_alloc_new w (Obj.cells (Array.replicate 160 (.int .u8 0)) 200))
  have he : Hid (Ext w (w.alloc (Obj.cells (Array.replicate 160 (.int .u8 0)) 200))) := (Ext.refl _).alloc _
  have hZ : (Array.replicate 160 (Value.int .u8 0)).size = 160 := by simp
  have hp : permC.size = 160 := by kernel_rfl
  have hone : permC.all (·.oneCell') = true := by kernel_rfl
  generalize Array.replicate 160 (Value.int .u8 0) = Z at hz hg he hZ
  go_enter Tryd.func129, Tryd.ntmps129
  go_wp2_with (refine wpList_build rfl _ _ rfl (by kernel_rfl) ?_)
  rename_i hyp
  clear hyp
  generalize hB : Option.getD (Program.built Tryd.prog 200 _) #[] = B
  have hBp : B = permC := hB.symm.trans (by kernel_rfl)
  clear hB
  subst hBp
  have hst := run_storeCells_from (P := Tryd.prog) w.heap.size 200 permC.toList 0 Z _ hg.out (by rw [Array.length_toList, hp, hZ]) (fun v hv => (Array.all_eq_true_iff_forall_mem.1 hone) v (by simpa using hv))
  rw [hst]
  simp only [List.take_zero, List.nil_append, Array.toArray_toList]
  iterate 10 (generalize Option.getD (Program.built Tryd.prog 199 _) #[] = B)
  go_wp2_with fail
  (try simp only [Exit.inBlock, Exit.then])
  refine bodyPost_ret (results_cell_row rfl _ _ w.heap.size 200 permC (0, 0) _ rfl (setRow_heap _ _ _ _ _ _ hg.out) rfl rfl (by rw [hp]; rfl)) rfl ?_
  exact ⟨rfl, below_setRow he.out (Nat.le_refl _) _⟩
end Go.Proofs.YtmnohmhhmaeljaaDoor
end

section
/-
  blake's first words, and the variable that holds them.
-/
namespace Go.Proofs.YtmnohmhhmaeljaaDoor
open Go.ChangeShapes Go.WideShapes Go.ChangeAt Go.RowKit Go.Deep

def initL : List Nat := [0x6a09e667, 0xbb67ae85, 0x3c6ef372, 0xa54ff53a, 0x510e527f, 0x9b05688c, 0x1f83d9ab, 0x5be0cd19]
/-- The variable blake.initial holds the first words. -/
def Gl (w : World) (tg : TypeId × Nat × Nat) : Prop := w.heap[0]? = some (.cells (wcells initL).toArray tg.1 tg.2)
section
variable {w w' : World} {tg : TypeId × Nat × Nat}
theorem Gl.lt (h : Gl w tg) : 0 < w.heap.size := by
  rcases Nat.lt_or_ge 0 w.heap.size with h1 | h1
  · exact h1
  · unfold Gl at h; rw [Array.getElem?_eq_none h1] at h; cases h
theorem Gl.cell (h : Gl w tg) {i : Nat} (hi : i < initL.length) : w.cell? ⟨0, i, none⟩ = some (.int .u32 (wd initL i : Int)) := by
  rw [cell_of_row w 0 i _ tg.1 tg.2 h]
  simp [wcells, wd, List.getD, hi]
theorem Gl.kept {B : Nat} (h : Gl w tg) (he : Below B w w') (hB : 0 < B) : Gl w' tg := (he.block 0 hB).trans h
theorem Gl.ext (h : Gl w tg) (he : Ext w w') : Gl w' tg := h.kept he h.lt
end
end Go.Proofs.YtmnohmhhmaeljaaDoor
end
