import Derived.Test.YtbkmnmhfjgmoiaaDoorPkP
/-
  blake.mix.
-/
namespace Go.Proofs.YtbkmnmhfjgmoiaaDoor
open Go.ChangeShapes Go.WideShapes Go.ChangeAt Go.RowKit Go.Deep

def putAdd (vs : List Nat) (a b x : Nat) : List Nat := vs.set a (add32 (wd vs a) (add32 (wd vs b) x))
def mixL (vs : List Nat) (a b c d x y : Nat) : List Nat :=
  putRot 7 (putSum (putRot 8 (putAdd (putRot 12 (putSum (putRot 16 (putAdd vs a b x) d a) c d) b c) a b y) d a) c d) b c
theorem putAdd_len (vs : List Nat) (a b x : Nat) : (putAdd vs a b x).length = vs.length := by simp [putAdd]
theorem mixL_len (vs : List Nat) (a b c d x y : Nat) : (mixL vs a b c d x y).length = vs.length := by simp [mixL, putAdd, putRot, putSum]

set_option maxRecDepth 100000 in
set_option maxHeartbeats 4000000 in
theorem mix_calls {g a b c d x y : Nat} {vs : List Nat} {w : World} (h : Arr w g vs) (hl : vs.length = 16) (ha : a < 16) (hb : b < 16) (hc : c < 16) (hd : d < 16) (hx : x < 4294967296) (hy : y < 4294967296) :
    Calls Tryd.prog 47 #[.pointer (some ⟨g, 0, none⟩), .int .i64 (a : Int), .int .i64 (b : Int), .int .i64 (c : Int), .int .i64 (d : Int), .int .u32 (x : Int), .int .u32 (y : Int)] w
      fun e w' => e = .returned (.tuple #[]) ∧ Arr w' g (mixL vs a b c d x y) ∧ w.grownBy w' (some g) := by
  have ha' : (a : Int) < 16 := by omega
  have hb' : (b : Int) < 16 := by omega
  have hc' : (c : Int) < 16 := by omega
  have hd' : (d : Int) < 16 := by omega
  go_enter Tryd.func47, Tryd.ntmps47
  go_wp2_with fail
  refine wp_gen (fun w1 => Arr w1 g vs ∧ w.grownBy w1 (some g)) ⟨h, gr_ext (Ext.refl _) _⟩ ?_
  rintro w0 ⟨A0, G0⟩
  have L0 := hl
  clear h
  obtain ⟨cp, fp, lp⟩ := A0.fct (i := a) (by omega)
  obtain ⟨cq, fq, lq⟩ := A0.fct (i := b) (by omega)
  have KEEP : Hid (∀ w', Ext w0 w' → w'.cell? ⟨g, a, none⟩ = some (.int .u32 (wd vs a : Int)) ∧ w'.cell? ⟨g, b, none⟩ = some (.int .u32 (wd vs b : Int))) := fun w' e => ⟨((A0.ext e).fct (by omega)).1, ((A0.ext e).fct (by omega)).1⟩
  have u1 : IntKind.u32.wrap ((wd vs b : Int) + (x : Int)) = (add32 (wd vs b) x : Int) := u32_add
  have u2 : IntKind.u32.wrap ((wd vs a : Int) + (add32 (wd vs b) x : Int)) = (add32 (wd vs a) (add32 (wd vs b) x) : Int) := u32_add
  refine wp_region_seqZ (R := Ext) Ext.refl (fun _ _ _ => Ext.trans) 15 [0, 1, 2, 3, 4, 5, 6, 7, 8, 9, 10, 11, 12, 13, 14, 15] [15] [(0, 15, 2), (0, 16, 4), (1, 17, 32768), (6, 18, 196608), (8, 19, 262144), (0, 20, 2), (0, 21, 8), (32, 22, 1048576), (192, 23, 6291456), (256, 24, 8388608), (0, 25, 64), (1536, 26, 50331648), (2064, 27, 67633152), (1, 28, 32768), (16383, 29, 268500992), (24575, 0, 671088640)] (by kernel_rfl) (by kernel_rfl) (by kernel_rfl) rfl (by kernel_rfl) (by kernel_rfl) (by kernel_rfl) (fun _ _ d _ _ h => by cases d <;> exact h) ?_
  repeat (refine seqZ_read _ (fun w' e => KEEP.out w' ((Ext.refl _).drew.trans e)) _ (v := ?_) rfl rfl (by rfl) ?_ ?_; rotate_left; (· intro w' hF; go_simp; (try with_reducible rfl)); simp only [Act.put, List.setIfInBounds_toArray, List.set_cons_zero, List.set_cons_succ])
  refine seqZ_do _ rfl rfl (by rfl) (fun K1 hK1 => ?_)
  go_simp
  refine hK1.out _ _ (.inl rfl) ?_
  clear hK1 K1
  refine seqZ_done ?_
  go_wp2_with fail
  refine wp_gen (fun w1 => Arr w1 g (putAdd vs a b x) ∧ w.grownBy w1 (some g)) ⟨(A0.set (by omega) (add32_lt _ _)).ext (Ext.refl _).drew, grown_set G0⟩ ?_
  rintro w1 ⟨A1, G1⟩
  have L1 : (putAdd vs a b x).length = 16 := (putAdd_len ..).trans L0
  clear A0 G0 L0 cp fp lp cq fq lq KEEP u1 u2
  generalize HV0 : putAdd vs a b x = v1 at A1 L1
  replace HV0 := Lib.hid HV0
  obtain ⟨cp, fp, lp⟩ := A1.fct (i := d) (by omega)
  obtain ⟨cq, fq, lq⟩ := A1.fct (i := a) (by omega)
  have KEEP : Hid (∀ w', Ext w1 w' → w'.cell? ⟨g, d, none⟩ = some (.int .u32 (wd v1 d : Int)) ∧ w'.cell? ⟨g, a, none⟩ = some (.int .u32 (wd v1 a : Int))) := fun w' e => ⟨((A1.ext e).fct (by omega)).1, ((A1.ext e).fct (by omega)).1⟩
  have u1 : bits .xor .u32 (wd v1 d : Int) (wd v1 a : Int) = ((wd v1 d ^^^ wd v1 a : Nat) : Int) := u32_xor_nat _ _ lp lq
  have HR := Lib.hid (fun w0 : World => @rot16 (wd v1 d ^^^ wd v1 a) w0 (xor_lt32 lp lq))
  refine wp_region_seqZ (R := Ext) Ext.refl (fun _ _ _ => Ext.trans) 16 [0, 1, 2, 3, 4, 5, 6, 7, 8, 9, 10, 11, 12, 14, 13, 15, 16] [13, 16] [(0, 30, 2), (0, 31, 32), (0, 32, 2), (0, 33, 32), (4, 34, 4294967296), (24, 35, 25769803776), (32, 36, 34359738368), (0, 37, 2), (0, 38, 4), (128, 39, 137438953472), (768, 40, 824633720832), (1024, 41, 1099511627776), (2112, 42, 2267742732288), (4096, 43, 4398046511104), (1, 44, 1073741824), (32767, 45, 17594333528064), (49151, 0, 43980465111040)] (by kernel_rfl) (by kernel_rfl) (by kernel_rfl) rfl (by kernel_rfl) (by kernel_rfl) (by kernel_rfl) (fun _ _ d _ _ h => by cases d <;> exact h) ?_
  repeat (refine seqZ_read _ (fun w' e => KEEP.out w' ((Ext.refl _).drew.trans e)) _ (v := ?_) rfl rfl (by rfl) ?_ ?_; rotate_left; (· intro w' hF; go_simp; (try with_reducible rfl)); simp only [Act.put, List.setIfInBounds_toArray, List.set_cons_zero, List.set_cons_succ])
  refine seqZ_do _ rfl rfl (by rfl) (fun K1 hK1 => ?_)
  go_simp
  refine (HR.out _).mono ?_
  rintro e w1 ⟨rfl, rfl⟩
  refine hK1.out _ _ (.inr (Ext.refl _)) ?_
  clear hK1 K1
  try simp only [Act.put, List.setIfInBounds_toArray, List.set_cons_zero, List.set_cons_succ]
  repeat (refine seqZ_read _ (fun w' e => KEEP.out w' ((Ext.refl _).drew.trans e)) _ (v := ?_) rfl rfl (by rfl) ?_ ?_; rotate_left; (· intro w' hF; go_simp; (try with_reducible rfl)); simp only [Act.put, List.setIfInBounds_toArray, List.set_cons_zero, List.set_cons_succ])
  refine seqZ_do _ rfl rfl (by rfl) (fun K1 hK1 => ?_)
  go_simp
  refine hK1.out _ _ (.inl rfl) ?_
  clear hK1 K1
  refine seqZ_done ?_
  go_wp2_with fail
  refine wp_gen (fun w1 => Arr w1 g (putRot 16 v1 d a) ∧ w.grownBy w1 (some g)) ⟨(A1.set (by omega) (rotr_lt (xor_lt32 lp lq))).ext (Ext.refl _).drew, grown_set G1⟩ ?_
  rintro w2 ⟨A2, G2⟩
  have L2 : (putRot 16 v1 d a).length = 16 := (putRot_len ..).trans L1
  clear A1 G1 L1 cp fp lp cq fq lq KEEP u1 HR
  generalize HV1 : putRot 16 v1 d a = v2 at A2 L2
  replace HV1 := Lib.hid HV1
  obtain ⟨cp, fp, lp⟩ := A2.fct (i := c) (by omega)
  obtain ⟨cq, fq, lq⟩ := A2.fct (i := d) (by omega)
  have KEEP : Hid (∀ w', Ext w2 w' → w'.cell? ⟨g, c, none⟩ = some (.int .u32 (wd v2 c : Int)) ∧ w'.cell? ⟨g, d, none⟩ = some (.int .u32 (wd v2 d : Int))) := fun w' e => ⟨((A2.ext e).fct (by omega)).1, ((A2.ext e).fct (by omega)).1⟩
  have u1 : IntKind.u32.wrap ((wd v2 c : Int) + (wd v2 d : Int)) = (add32 (wd v2 c) (wd v2 d) : Int) := u32_add
  refine wp_region_seqZ (R := Ext) Ext.refl (fun _ _ _ => Ext.trans) 13 [0, 1, 2, 3, 4, 5, 6, 7, 8, 9, 10, 11, 12, 13] [13] [(0, 46, 2), (0, 47, 16), (1, 48, 70368744177664), (6, 49, 422212465065984), (8, 50, 562949953421312), (0, 51, 2), (0, 52, 32), (32, 53, 2251799813685248), (192, 54, 13510798882111488), (256, 55, 18014398509481984), (528, 56, 37154696925806592), (1, 57, 70368744177664), (4095, 58, 144255925564211200), (6143, 0, 360287970189639680)] (by kernel_rfl) (by kernel_rfl) (by kernel_rfl) rfl (by kernel_rfl) (by kernel_rfl) (by kernel_rfl) (fun _ _ d _ _ h => by cases d <;> exact h) ?_
  repeat (refine seqZ_read _ (fun w' e => KEEP.out w' ((Ext.refl _).drew.trans e)) _ (v := ?_) rfl rfl (by rfl) ?_ ?_; rotate_left; (· intro w' hF; go_simp; (try with_reducible rfl)); simp only [Act.put, List.setIfInBounds_toArray, List.set_cons_zero, List.set_cons_succ])
  refine seqZ_do _ rfl rfl (by rfl) (fun K1 hK1 => ?_)
  go_simp
  refine hK1.out _ _ (.inl rfl) ?_
  clear hK1 K1
  refine seqZ_done ?_
  go_wp2_with fail
  refine wp_gen (fun w1 => Arr w1 g (putSum v2 c d) ∧ w.grownBy w1 (some g)) ⟨(A2.set (by omega) (add32_lt _ _)).ext (Ext.refl _).drew, grown_set G2⟩ ?_
  rintro w3 ⟨A3, G3⟩
  have L3 : (putSum v2 c d).length = 16 := (putSum_len ..).trans L2
  clear A2 G2 L2 cp fp lp cq fq lq KEEP u1
  generalize HV2 : putSum v2 c d = v3 at A3 L3
  replace HV2 := Lib.hid HV2
  obtain ⟨cp, fp, lp⟩ := A3.fct (i := b) (by omega)
  obtain ⟨cq, fq, lq⟩ := A3.fct (i := c) (by omega)
  have KEEP : Hid (∀ w', Ext w3 w' → w'.cell? ⟨g, b, none⟩ = some (.int .u32 (wd v3 b : Int)) ∧ w'.cell? ⟨g, c, none⟩ = some (.int .u32 (wd v3 c : Int))) := fun w' e => ⟨((A3.ext e).fct (by omega)).1, ((A3.ext e).fct (by omega)).1⟩
  have u1 : bits .xor .u32 (wd v3 b : Int) (wd v3 c : Int) = ((wd v3 b ^^^ wd v3 c : Nat) : Int) := u32_xor_nat _ _ lp lq
  have HR := Lib.hid (fun w0 : World => @rot12 (wd v3 b ^^^ wd v3 c) w0 (xor_lt32 lp lq))
  refine wp_region_seqZ (R := Ext) Ext.refl (fun _ _ _ => Ext.trans) 16 [0, 1, 2, 3, 4, 5, 6, 7, 8, 9, 10, 11, 12, 14, 13, 15, 16] [13, 16] [(0, 59, 2), (0, 60, 8), (0, 61, 2), (0, 62, 8), (4, 63, 2305843009213693952), (24, 64, 13835058055282163712), (32, 65, 18446744073709551616), (0, 66, 2), (0, 67, 16), (128, 68, 73786976294838206464), (768, 69, 442721857769029238784), (1024, 70, 590295810358705651712), (2112, 71, 1217485108864830406656), (4096, 72, 2361183241434822606848), (1, 73, 576460752303423488), (32767, 74, 9445885887243897274368), (49151, 0, 23611832414348226068480)] (by kernel_rfl) (by kernel_rfl) (by kernel_rfl) rfl (by kernel_rfl) (by kernel_rfl) (by kernel_rfl) (fun _ _ d _ _ h => by cases d <;> exact h) ?_
  repeat (refine seqZ_read _ (fun w' e => KEEP.out w' ((Ext.refl _).drew.trans e)) _ (v := ?_) rfl rfl (by rfl) ?_ ?_; rotate_left; (· intro w' hF; go_simp; (try with_reducible rfl)); simp only [Act.put, List.setIfInBounds_toArray, List.set_cons_zero, List.set_cons_succ])
  refine seqZ_do _ rfl rfl (by rfl) (fun K1 hK1 => ?_)
  go_simp
  refine (HR.out _).mono ?_
  rintro e w1 ⟨rfl, rfl⟩
  refine hK1.out _ _ (.inr (Ext.refl _)) ?_
  clear hK1 K1
  try simp only [Act.put, List.setIfInBounds_toArray, List.set_cons_zero, List.set_cons_succ]
  repeat (refine seqZ_read _ (fun w' e => KEEP.out w' ((Ext.refl _).drew.trans e)) _ (v := ?_) rfl rfl (by rfl) ?_ ?_; rotate_left; (· intro w' hF; go_simp; (try with_reducible rfl)); simp only [Act.put, List.setIfInBounds_toArray, List.set_cons_zero, List.set_cons_succ])
  refine seqZ_do _ rfl rfl (by rfl) (fun K1 hK1 => ?_)
  go_simp
  refine hK1.out _ _ (.inl rfl) ?_
  clear hK1 K1
  refine seqZ_done ?_
  go_wp2_with fail
  refine wp_gen (fun w1 => Arr w1 g (putRot 12 v3 b c) ∧ w.grownBy w1 (some g)) ⟨(A3.set (by omega) (rotr_lt (xor_lt32 lp lq))).ext (Ext.refl _).drew, grown_set G3⟩ ?_
  rintro w4 ⟨A4, G4⟩
  have L4 : (putRot 12 v3 b c).length = 16 := (putRot_len ..).trans L3
  clear A3 G3 L3 cp fp lp cq fq lq KEEP u1 HR
  generalize HV3 : putRot 12 v3 b c = v4 at A4 L4
  replace HV3 := Lib.hid HV3
  obtain ⟨cp, fp, lp⟩ := A4.fct (i := a) (by omega)
  obtain ⟨cq, fq, lq⟩ := A4.fct (i := b) (by omega)
  have KEEP : Hid (∀ w', Ext w4 w' → w'.cell? ⟨g, a, none⟩ = some (.int .u32 (wd v4 a : Int)) ∧ w'.cell? ⟨g, b, none⟩ = some (.int .u32 (wd v4 b : Int))) := fun w' e => ⟨((A4.ext e).fct (by omega)).1, ((A4.ext e).fct (by omega)).1⟩
  have u1 : IntKind.u32.wrap ((wd v4 b : Int) + (y : Int)) = (add32 (wd v4 b) y : Int) := u32_add
  have u2 : IntKind.u32.wrap ((wd v4 a : Int) + (add32 (wd v4 b) y : Int)) = (add32 (wd v4 a) (add32 (wd v4 b) y) : Int) := u32_add
  refine wp_region_seqZ (R := Ext) Ext.refl (fun _ _ _ => Ext.trans) 15 [0, 1, 2, 3, 4, 5, 6, 7, 8, 9, 10, 11, 12, 13, 14, 15] [15] [(0, 75, 2), (0, 76, 4), (1, 77, 37778931862957161709568), (6, 78, 226673591177742970257408), (8, 79, 302231454903657293676544), (0, 80, 2), (0, 81, 8), (32, 82, 1208925819614629174706176), (192, 83, 7253554917687775048237056), (256, 84, 9671406556917033397649408), (0, 85, 128), (1536, 86, 58028439341502200385896448), (2064, 87, 77975715365143581768548352), (1, 88, 37778931862957161709568), (16383, 89, 309560567685070983048200192), (24575, 0, 773712524553362671811952640)] (by kernel_rfl) (by kernel_rfl) (by kernel_rfl) rfl (by kernel_rfl) (by kernel_rfl) (by kernel_rfl) (fun _ _ d _ _ h => by cases d <;> exact h) ?_
  repeat (refine seqZ_read _ (fun w' e => KEEP.out w' ((Ext.refl _).drew.trans e)) _ (v := ?_) rfl rfl (by rfl) ?_ ?_; rotate_left; (· intro w' hF; go_simp; (try with_reducible rfl)); simp only [Act.put, List.setIfInBounds_toArray, List.set_cons_zero, List.set_cons_succ])
  refine seqZ_do _ rfl rfl (by rfl) (fun K1 hK1 => ?_)
  go_simp
  refine hK1.out _ _ (.inl rfl) ?_
  clear hK1 K1
  refine seqZ_done ?_
  go_wp2_with fail
  refine wp_gen (fun w1 => Arr w1 g (putAdd v4 a b y) ∧ w.grownBy w1 (some g)) ⟨(A4.set (by omega) (add32_lt _ _)).ext (Ext.refl _).drew, grown_set G4⟩ ?_
  rintro w5 ⟨A5, G5⟩
  have L5 : (putAdd v4 a b y).length = 16 := (putAdd_len ..).trans L4
  clear A4 G4 L4 cp fp lp cq fq lq KEEP u1 u2
  generalize HV4 : putAdd v4 a b y = v5 at A5 L5
  replace HV4 := Lib.hid HV4
  obtain ⟨cp, fp, lp⟩ := A5.fct (i := d) (by omega)
  obtain ⟨cq, fq, lq⟩ := A5.fct (i := a) (by omega)
  have KEEP : Hid (∀ w', Ext w5 w' → w'.cell? ⟨g, d, none⟩ = some (.int .u32 (wd v5 d : Int)) ∧ w'.cell? ⟨g, a, none⟩ = some (.int .u32 (wd v5 a : Int))) := fun w' e => ⟨((A5.ext e).fct (by omega)).1, ((A5.ext e).fct (by omega)).1⟩
  have u1 : bits .xor .u32 (wd v5 d : Int) (wd v5 a : Int) = ((wd v5 d ^^^ wd v5 a : Nat) : Int) := u32_xor_nat _ _ lp lq
  have HR := Lib.hid (fun w0 : World => @rot8 (wd v5 d ^^^ wd v5 a) w0 (xor_lt32 lp lq))
  refine wp_region_seqZ (R := Ext) Ext.refl (fun _ _ _ => Ext.trans) 16 [0, 1, 2, 3, 4, 5, 6, 7, 8, 9, 10, 11, 12, 14, 13, 15, 16] [13, 16] [(0, 90, 2), (0, 91, 32), (0, 92, 2), (0, 93, 32), (4, 94, 4951760157141521099596496896), (24, 95, 29710560942849126597578981376), (32, 96, 39614081257132168796771975168), (0, 97, 2), (0, 98, 4), (128, 99, 158456325028528675187087900672), (768, 100, 950737950171172051122527404032), (1024, 101, 1267650600228229401496703205376), (2112, 102, 2614529362970723140586950361088), (4096, 103, 5070602400912917605986812821504), (1, 104, 1237940039285380274899124224), (32767, 105, 20284885483730241184497049534464), (49151, 0, 50706024009129176059868128215040)] (by kernel_rfl) (by kernel_rfl) (by kernel_rfl) rfl (by kernel_rfl) (by kernel_rfl) (by kernel_rfl) (fun _ _ d _ _ h => by cases d <;> exact h) ?_
  repeat (refine seqZ_read _ (fun w' e => KEEP.out w' ((Ext.refl _).drew.trans e)) _ (v := ?_) rfl rfl (by rfl) ?_ ?_; rotate_left; (· intro w' hF; go_simp; (try with_reducible rfl)); simp only [Act.put, List.setIfInBounds_toArray, List.set_cons_zero, List.set_cons_succ])
  refine seqZ_do _ rfl rfl (by rfl) (fun K1 hK1 => ?_)
  go_simp
  refine (HR.out _).mono ?_
  rintro e w1 ⟨rfl, rfl⟩
  refine hK1.out _ _ (.inr (Ext.refl _)) ?_
  clear hK1 K1
  try simp only [Act.put, List.setIfInBounds_toArray, List.set_cons_zero, List.set_cons_succ]
  repeat (refine seqZ_read _ (fun w' e => KEEP.out w' ((Ext.refl _).drew.trans e)) _ (v := ?_) rfl rfl (by rfl) ?_ ?_; rotate_left; (· intro w' hF; go_simp; (try with_reducible rfl)); simp only [Act.put, List.setIfInBounds_toArray, List.set_cons_zero, List.set_cons_succ])
  refine seqZ_do _ rfl rfl (by rfl) (fun K1 hK1 => ?_)
  go_simp
  refine hK1.out _ _ (.inl rfl) ?_
  clear hK1 K1
  refine seqZ_done ?_
  go_wp2_with fail
  refine wp_gen (fun w1 => Arr w1 g (putRot 8 v5 d a) ∧ w.grownBy w1 (some g)) ⟨(A5.set (by omega) (rotr_lt (xor_lt32 lp lq))).ext (Ext.refl _).drew, grown_set G5⟩ ?_
  rintro w6 ⟨A6, G6⟩
  have L6 : (putRot 8 v5 d a).length = 16 := (putRot_len ..).trans L5
  clear A5 G5 L5 cp fp lp cq fq lq KEEP u1 HR
  generalize HV5 : putRot 8 v5 d a = v6 at A6 L6
  replace HV5 := Lib.hid HV5
  obtain ⟨cp, fp, lp⟩ := A6.fct (i := c) (by omega)
  obtain ⟨cq, fq, lq⟩ := A6.fct (i := d) (by omega)
  have KEEP : Hid (∀ w', Ext w6 w' → w'.cell? ⟨g, c, none⟩ = some (.int .u32 (wd v6 c : Int)) ∧ w'.cell? ⟨g, d, none⟩ = some (.int .u32 (wd v6 d : Int))) := fun w' e => ⟨((A6.ext e).fct (by omega)).1, ((A6.ext e).fct (by omega)).1⟩
  have u1 : IntKind.u32.wrap ((wd v6 c : Int) + (wd v6 d : Int)) = (add32 (wd v6 c) (wd v6 d) : Int) := u32_add
  refine wp_region_seqZ (R := Ext) Ext.refl (fun _ _ _ => Ext.trans) 13 [0, 1, 2, 3, 4, 5, 6, 7, 8, 9, 10, 11, 12, 13] [13] [(0, 106, 2), (0, 107, 16), (1, 108, 81129638414606681695789005144064), (6, 109, 486777830487640090174734030864384), (8, 110, 649037107316853453566312041152512), (0, 111, 2), (0, 112, 32), (32, 113, 2596148429267413814265248164610048), (192, 114, 15576890575604482885591488987660288), (256, 115, 20769187434139310514121985316880384), (528, 116, 42836449082912327935376594716065792), (1, 117, 81129638414606681695789005144064), (4095, 118, 166315758749943697476367460545331200), (6143, 0, 415383748682786210282439706337607680)] (by kernel_rfl) (by kernel_rfl) (by kernel_rfl) rfl (by kernel_rfl) (by kernel_rfl) (by kernel_rfl) (fun _ _ d _ _ h => by cases d <;> exact h) ?_
  repeat (refine seqZ_read _ (fun w' e => KEEP.out w' ((Ext.refl _).drew.trans e)) _ (v := ?_) rfl rfl (by rfl) ?_ ?_; rotate_left; (· intro w' hF; go_simp; (try with_reducible rfl)); simp only [Act.put, List.setIfInBounds_toArray, List.set_cons_zero, List.set_cons_succ])
  refine seqZ_do _ rfl rfl (by rfl) (fun K1 hK1 => ?_)
  go_simp
  refine hK1.out _ _ (.inl rfl) ?_
  clear hK1 K1
  refine seqZ_done ?_
  go_wp2_with fail
  refine wp_gen (fun w1 => Arr w1 g (putSum v6 c d) ∧ w.grownBy w1 (some g)) ⟨(A6.set (by omega) (add32_lt _ _)).ext (Ext.refl _).drew, grown_set G6⟩ ?_
  rintro w7 ⟨A7, G7⟩
  have L7 : (putSum v6 c d).length = 16 := (putSum_len ..).trans L6
  clear A6 G6 L6 cp fp lp cq fq lq KEEP u1
  generalize HV6 : putSum v6 c d = v7 at A7 L7
  replace HV6 := Lib.hid HV6
  obtain ⟨cp, fp, lp⟩ := A7.fct (i := b) (by omega)
  obtain ⟨cq, fq, lq⟩ := A7.fct (i := c) (by omega)
  have KEEP : Hid (∀ w', Ext w7 w' → w'.cell? ⟨g, b, none⟩ = some (.int .u32 (wd v7 b : Int)) ∧ w'.cell? ⟨g, c, none⟩ = some (.int .u32 (wd v7 c : Int))) := fun w' e => ⟨((A7.ext e).fct (by omega)).1, ((A7.ext e).fct (by omega)).1⟩
  have u1 : bits .xor .u32 (wd v7 b : Int) (wd v7 c : Int) = ((wd v7 b ^^^ wd v7 c : Nat) : Int) := u32_xor_nat _ _ lp lq
  have HR := Lib.hid (fun w0 : World => @rot7 (wd v7 b ^^^ wd v7 c) w0 (xor_lt32 lp lq))
  refine wp_region_seqZ (R := Ext) Ext.refl (fun _ _ _ => Ext.trans) 16 [0, 1, 2, 3, 4, 5, 6, 7, 8, 9, 10, 11, 12, 14, 13, 15, 16] [13, 16] [(0, 119, 2), (0, 120, 8), (0, 121, 2), (0, 122, 8), (4, 123, 2658455991569831745807614120560689152), (24, 124, 15950735949418990474845684723364134912), (32, 125, 21267647932558653966460912964485513216), (0, 126, 2), (0, 127, 16), (128, 128, 85070591730234615865843651857942052864), (768, 129, 510423550381407695195061911147652317184), (1024, 130, 680564733841876926926749214863536422912), (2112, 131, 1403664763548871161786420255656043872256), (4096, 132, 2722258935367507707706996859454145691648), (1, 133, 664613997892457936451903530140172288), (32767, 134, 10890364969465815746700891244876863111168), (49151, 0, 27222589353675077077069968594541456916480)] (by kernel_rfl) (by kernel_rfl) (by kernel_rfl) rfl (by kernel_rfl) (by kernel_rfl) (by kernel_rfl) (fun _ _ d _ _ h => by cases d <;> exact h) ?_
  repeat (refine seqZ_read _ (fun w' e => KEEP.out w' ((Ext.refl _).drew.trans e)) _ (v := ?_) rfl rfl (by rfl) ?_ ?_; rotate_left; (· intro w' hF; go_simp; (try with_reducible rfl)); simp only [Act.put, List.setIfInBounds_toArray, List.set_cons_zero, List.set_cons_succ])
  refine seqZ_do _ rfl rfl (by rfl) (fun K1 hK1 => ?_)
  go_simp
  refine (HR.out _).mono ?_
  rintro e w1 ⟨rfl, rfl⟩
  refine hK1.out _ _ (.inr (Ext.refl _)) ?_
  clear hK1 K1
  try simp only [Act.put, List.setIfInBounds_toArray, List.set_cons_zero, List.set_cons_succ]
  repeat (refine seqZ_read _ (fun w' e => KEEP.out w' ((Ext.refl _).drew.trans e)) _ (v := ?_) rfl rfl (by rfl) ?_ ?_; rotate_left; (· intro w' hF; go_simp; (try with_reducible rfl)); simp only [Act.put, List.setIfInBounds_toArray, List.set_cons_zero, List.set_cons_succ])
  refine seqZ_do _ rfl rfl (by rfl) (fun K1 hK1 => ?_)
  go_simp
  refine hK1.out _ _ (.inl rfl) ?_
  clear hK1 K1
  refine seqZ_done ?_
  go_wp2_with fail
  have HM : mixL vs a b c d x y = putRot 7 v7 b c := by
    unfold mixL
    rw [HV0.out, HV1.out, HV2.out, HV3.out, HV4.out, HV5.out, HV6.out]
  rw [HM]
  go_end0
  exact ⟨rfl, (A7.set (by omega) (rotr_lt (xor_lt32 lp lq))).ext (Ext.refl _).drew, grown_set G7⟩
end Go.Proofs.YtbkmnmhfjgmoiaaDoor
