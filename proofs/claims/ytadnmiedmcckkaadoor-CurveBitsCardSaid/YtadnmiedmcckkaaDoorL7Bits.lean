/-
  CurveBits: bits of a secret, and the highest of a public key, that do not count change nothing; of 0 nothing comes but 0.
-/
import Derived.Test.YtadnmiedmcckkaaDoorCurve2
import Derived.Test.YtadnmiedmcckkaaDoorFree
import Derived.Test.YtadnmiedmcckkaaDoorFldBack
import Derived.Test.YtadnmiedmcckkaaDoorBitsM
import Derived.Test.YtadnmiedmcckkaaDoorScalar
namespace Go.Proofs.YtadnmiedmcckkaaDoor
open Go.ChangeShapes Go.WideShapes Go.ChangeAt Go.RowKit Go.Deep
set_option maxRecDepth 100000

set_option maxHeartbeats 8000000 in
theorem curveBits_calls {ka kb : List UInt8} {n : Nat} {w : World} (hka : ka.length = 32) (hkb : kb.length = 32) (hn : n < 256) {tg : TypeId × Nat × Nat} (hG : Gp w tg) :
    Calls Tryd.prog 6 #[.agg (cellsOf ka).toArray, .agg (cellsOf kb).toArray, .int .u8 (n : Int)] w fun e w' => e = .returned (.bool true) ∧ Ext w w' := by
  have AW : Hid (∀ W, Ext w W → Calls Tryd.prog 13 #[] W fun e w' => e = .returned (.bool true) ∧ Ext W w') := fun W e => awake7_calls (hG.ext e)
  have MU : Hid (∀ W, Ext w W → Calls Tryd.prog 14 #[.agg (cellsOf (ka)).toArray, .agg (cellsOf (kb)).toArray] W fun e w' => e = .returned (.agg (cellsOf (kL (multN ka (ofV kb)))).toArray) ∧ Ext W w') := fun W e => by
    exact mult_calls hka hkb (hG.ext e)
  have MS : Hid (∀ W, Ext w W → Calls Tryd.prog 14 #[.agg (cellsOf (mixS ka n)).toArray, .agg (cellsOf (kb)).toArray] W fun e w' => e = .returned (.agg (cellsOf (kL (multN ka (ofV kb)))).toArray) ∧ Ext W w') := fun W e => by
    have := mult_calls (mixS_len hka n) hkb (hG.ext e)
    rwa [mult_mixS hka hn] at this
  have MT : Hid (∀ W, Ext w W → Calls Tryd.prog 14 #[.agg (cellsOf (ka)).toArray, .agg (cellsOf (flipT kb)).toArray] W fun e w' => e = .returned (.agg (cellsOf (kL (multN ka (ofV kb)))).toArray) ∧ Ext W w') := fun W e => by
    have := mult_calls hka (flipT_len hkb) (hG.ext e)
    rwa [ofV_flipT hkb] at this
  have MZ : Hid (∀ W, Ext w W → Calls Tryd.prog 14 #[.agg (cellsOf (ka)).toArray, .agg (cellsOf (List.replicate 32 0)).toArray] W fun e w' => e = .returned (.agg (cellsOf (List.replicate 32 0)).toArray) ∧ Ext W w') := fun W e => by
    have := mult_calls hka (show (List.replicate 32 (0 : UInt8)).length = 32 from rfl) (hG.ext e)
    rwa [ofV_nil, mult_zero, kL_nil] at this
  have b128 : bt (kL (multN ka (ofV kb))) 31 < 128 := kL_top (multN_lt _ _)
  clear hG
  obtain ⟨x0, hx0⟩ : ∃ x, x = bt ka 0 := ⟨_, rfl⟩
  obtain ⟨x1, hx1⟩ : ∃ x, x = bt ka 31 := ⟨_, rfl⟩
  obtain ⟨x2, hx2⟩ : ∃ x, x = bt kb 31 := ⟨_, rfl⟩
  have l0 : x0 < 256 := by rw [hx0]; exact bt_lt _ _
  have l1 : x1 < 256 := by rw [hx1]; exact bt_lt _ _
  have l2 : x2 < 256 := by rw [hx2]; exact bt_lt _ _
  obtain ⟨a1, ha1⟩ : ∃ x, x = x0 &&& 248 := ⟨_, rfl⟩
  obtain ⟨a2, ha2⟩ : ∃ x, x = n &&& 7 := ⟨_, rfl⟩
  obtain ⟨a3, ha3⟩ : ∃ x, x = a1 ||| a2 := ⟨_, rfl⟩
  obtain ⟨b1, hb1⟩ : ∃ x, x = x1 &&& 63 := ⟨_, rfl⟩
  obtain ⟨b2, hb2⟩ : ∃ x, x = n &&& 192 := ⟨_, rfl⟩
  obtain ⟨b3, hb3⟩ : ∃ x, x = b1 ||| b2 := ⟨_, rfl⟩
  obtain ⟨c3, hc3⟩ : ∃ x, x = x2 ^^^ 128 := ⟨_, rfl⟩
  have m1 : a1 < 256 := by rw [ha1]; exact Nat.lt_of_le_of_lt Nat.and_le_left l0
  have m2 : a2 < 256 := by rw [ha2]; exact Nat.lt_of_le_of_lt Nat.and_le_left hn
  have m3 : a3 < 256 := by rw [ha3]; exact Nat.or_lt_two_pow (n := 8) m1 m2
  have n1 : b1 < 256 := by rw [hb1]; exact Nat.lt_of_le_of_lt Nat.and_le_left l1
  have n2 : b2 < 256 := by rw [hb2]; exact Nat.lt_of_le_of_lt Nat.and_le_left hn
  have n3 : b3 < 256 := by rw [hb3]; exact Nat.or_lt_two_pow (n := 8) n1 n2
  have o3 : c3 < 256 := by rw [hc3]; exact (xor128 _ l2).1
  have q1 : bits .and .u8 (x0 : Int) 248 = (a1 : Int) := by rw [ha1]; exact u8_and_nat x0 248 l0 (by omega)
  have q2 : bits .and .u8 (n : Int) 7 = (a2 : Int) := by rw [ha2]; exact u8_and_nat n 7 hn (by omega)
  have q3 : bits .or .u8 (a1 : Int) (a2 : Int) = (a3 : Int) := by rw [ha3]; exact u8_or_nat a1 a2 m1 m2
  have q4 : bits .and .u8 (x1 : Int) 63 = (b1 : Int) := by rw [hb1]; exact u8_and_nat x1 63 l1 (by omega)
  have q5 : bits .and .u8 (n : Int) 192 = (b2 : Int) := by rw [hb2]; exact u8_and_nat n 192 hn (by omega)
  have q6 : bits .or .u8 (b1 : Int) (b2 : Int) = (b3 : Int) := by rw [hb3]; exact u8_or_nat b1 b2 n1 n2
  have q7 : bits .xor .u8 (x2 : Int) 128 = (c3 : Int) := by rw [hc3]; exact u8_xor_nat x2 128 l2 (by omega)
  have HM : Hid ((ka.set 0 (UInt8.ofNat a3)).set 31 (UInt8.ofNat b3) = mixS ka n) := by unfold Hid mixS lowB highB; rw [hb3, ha3, hb1, hb2, ha1, ha2, hx0, hx1]
  have HT : Hid (kb.set 31 (UInt8.ofNat c3) = flipT kb) := by unfold Hid flipT; rw [hc3, hx2]
  have HX0 : Hid (bt ka 0 = x0) := hx0.symm
  have HX1 : Hid (bt (ka.set 0 (UInt8.ofNat a3)) 31 = x1) := by unfold Hid; rw [btS (by omega) m3, hx1]; rfl
  have HX2 : Hid (bt kb 31 = x2) := hx2.symm
  have L_km := mixS_len hka n
  have L_kt := flipT_len hkb
  clear hx0 hx1 hx2 ha1 ha2 ha3 hb1 hb2 hb3 hc3 l0 l1 l2 m1 m2 n1 n2
  generalize mixS ka n = km at *
  generalize flipT kb = kt at *
  have L_kk := kL_len (multN ka (ofV kb))
  generalize kL (multN ka (ofV kb)) = kk at *
  generalize hb31 : bt kk 31 = b31 at *
  replace hb31 := Lib.hid hb31
  have t128 : Hid (decide ((b31 : Int) < 128) = true) := decide_eq_true (by omega)
  have L_ka := hka
  have L_kb := hkb
  have S_kk : (cellsOf kk).toArray.size = 32 := by simp [cellsOf_len, L_kk]
  have O_kk := cellsOf_one kk
  have S_ka : (cellsOf ka).toArray.size = 32 := by simp [cellsOf_len, L_ka]
  have O_ka := cellsOf_one ka
  have S_kb : (cellsOf kb).toArray.size = 32 := by simp [cellsOf_len, L_kb]
  have O_kb := cellsOf_one kb
  have S_km : (cellsOf km).toArray.size = 32 := by simp [cellsOf_len, L_km]
  have O_km := cellsOf_one km
  have S_kt : (cellsOf kt).toArray.size = 32 := by simp [cellsOf_len, L_kt]
  have O_kt := cellsOf_one kt
  have hal : ∀ w, (zeroValue 23).run Tryd.prog w = .ok (.agg (cellsOf (List.replicate 32 0)).toArray) w := fun w => by rw [zeros32_cells]; exact key_alloc w
  have b_zk : Hid (Tryd.prog.built 23 [] = some (cellsOf (List.replicate 32 0)).toArray) := by unfold Hid; rw [zeros32_cells]; exact zeros32_built
  have L_zk : (List.replicate 32 (0 : UInt8)).length = 32 := rfl
  generalize List.replicate 32 (0 : UInt8) = zk at *
  have S_zk : (cellsOf zk).toArray.size = 32 := by simp [cellsOf_len, L_zk]
  have B0 : Hid (∀ s, Ext ((w.alloc (Obj.cells (cellsOf ka).toArray 23)).alloc (Obj.cells (cellsOf kb).toArray 23)) s → Ky s w.heap.size ka ∧ Ky s (w.heap.size + 1) kb ∧ Ext w s) := fun s e => ⟨Ky.ext ⟨heap_alloc1 _ _ _, L_ka⟩ e, Ky.ext ⟨heap_alloc2 _ _ _, L_kb⟩ e, (((Ext.refl w).alloc _).alloc _).trans e⟩
  go_enter Tryd.func6, Tryd.ntmps6
  go_wp2_with fail
  refine (AW.out _ (B0.out _ (Ext.refl _)).2.2).mono ?_
  rintro e w0 ⟨rfl, e1⟩
  have P0 : Hid (∀ s, Ext w0 s → Ky s w.heap.size ka ∧ Ky s (w.heap.size + 1) kb ∧ Ext w s) := fun s e => B0.out s (e1.trans e)
  clear AW B0 e1
  go_upto_region 2 with fail
  have q_ := Lib.hid (P0.out _ (Ext.refl _)).1
  have a_1 : Hid ((w0.alloc (Obj.cells (cellsOf zk).toArray 23)).heap[w0.heap.size]? = some (.cells (cellsOf zk).toArray 23 (0, 0))) := heap_alloc_new _ _
  have q_' : Hid ((w0.alloc (Obj.cells (cellsOf zk).toArray 23)).heap[w.heap.size]? = some (.cells (cellsOf ka).toArray 23 (0, 0))) := (P0.out _ ((Ext.refl _).alloc _)).1.1
  go_upto_region 3 with (first
    | (refine wpList_load_row rfl 23 _ rfl w.heap.size rfl 23 (cellsOf ka).toArray (0, 0) _ q_.out.1 rfl rfl (by rw [S_ka]; rfl) ?_; simp only [Act.put, List.setIfInBounds_toArray, List.set_cons_zero, List.set_cons_succ])
    | (refine wpList_store_row rfl 23 _ _ rfl w0.heap.size (cellsOf ka).toArray rfl rfl 23 _ a_1.out (by rw [S_ka]; rfl) (by rw [S_ka, S_zk]) O_ka ?_; simp only [Act.put, List.setIfInBounds_toArray, List.set_cons_zero, List.set_cons_succ]))
  obtain ⟨g8, hg8⟩ : ∃ g, g = w0.heap.size := ⟨_, rfl⟩
  have z8 : w0.heap.size ≤ g8 := by rw [hg8]; exact Nat.le_refl _
  refine wp_gen (fun W => Ext w0 W ∧ Ky W g8 ka) ⟨below_setRow ((Ext.refl w0).alloc _) (Nat.le_refl _) _, ⟨by rw [hg8]; exact setRow_heap _ _ _ _ _ _ a_1.out, L_ka⟩⟩ ?_
  rw [← hg8]
  clear q_ q_' a_1 hg8
  rintro w1 ⟨x_, k8⟩
  have c0 := k8.cell (j := 0) (by omega)
  rw [HX0.out] at c0
  have f0 := k8.frozen 0
  have k8' := k8.setB6 (j := 0) (x := a3) (by omega) m3
  have c1 := k8'.cell (j := 31) (by omega)
  rw [HX1.out] at c1
  have f1 := k8'.frozen 31
  have k8'' := k8'.setB6 (j := 31) (x := b3) (by omega) n3
  rw [HM.out] at k8''
  have kk8 : Hid (Ext w0 ((w1.setCell ⟨g8, 0, none⟩ (.int .u8 (a3 : Int))).setCell ⟨g8, 31, none⟩ (.int .u8 (b3 : Int))) ∧ Ky ((w1.setCell ⟨g8, 0, none⟩ (.int .u8 (a3 : Int))).setCell ⟨g8, 31, none⟩ (.int .u8 (b3 : Int))) g8 km) := ⟨Ext.setCell (Ext.setCell x_ z8 _) z8 _, k8''⟩
  clear k8 k8' k8'' x_ HX0 HX1 HM
  go_upto_region 5 with fail
  refine wp_gen (fun W => Ext w0 W ∧ Ky W g8 km) kk8.out ?_
  clear kk8 c0 c1 f0 f1 q1 q2 q3 q4 q5 q6 z8
  rintro w1 ⟨x_, k8⟩
  have P1 : Hid (∀ s, Ext w1 s → Ky s w.heap.size ka ∧ Ky s (w.heap.size + 1) kb ∧ Ky s g8 km ∧ Ext w s) := fun s e => by
    obtain ⟨p0, p1, p2⟩ := P0.out s (x_.trans e)
    exact ⟨p0, p1, k8.ext e, p2⟩
  clear P0 x_ k8
  have q_ := Lib.hid (P1.out _ (Ext.refl _)).2.1
  have a_1 : Hid ((w1.alloc (Obj.cells (cellsOf zk).toArray 23)).heap[w1.heap.size]? = some (.cells (cellsOf zk).toArray 23 (0, 0))) := heap_alloc_new _ _
  go_upto_region 6 with (first
    | (refine wpList_load_row rfl 23 _ rfl (w.heap.size + 1) rfl 23 (cellsOf kb).toArray (0, 0) _ q_.out.1 rfl rfl (by rw [S_kb]; rfl) ?_; simp only [Act.put, List.setIfInBounds_toArray, List.set_cons_zero, List.set_cons_succ])
    | (refine wpList_store_row rfl 23 _ _ rfl w1.heap.size (cellsOf kb).toArray rfl rfl 23 _ a_1.out (by rw [S_kb]; rfl) (by rw [S_kb, S_zk]) O_kb ?_; simp only [Act.put, List.setIfInBounds_toArray, List.set_cons_zero, List.set_cons_succ]))
  obtain ⟨g9, hg9⟩ : ∃ g, g = w1.heap.size := ⟨_, rfl⟩
  have z9 : w1.heap.size ≤ g9 := by rw [hg9]; exact Nat.le_refl _
  refine wp_gen (fun W => Ext w1 W ∧ Ky W g9 kb) ⟨below_setRow ((Ext.refl w1).alloc _) (Nat.le_refl _) _, ⟨by rw [hg9]; exact setRow_heap _ _ _ _ _ _ a_1.out, L_kb⟩⟩ ?_
  rw [← hg9]
  clear q_ a_1 hg9
  rintro w2 ⟨x_, k9⟩
  have c2 := k9.cell (j := 31) (by omega)
  rw [HX2.out] at c2
  have f2 := k9.frozen 31
  have k9' := k9.setB6 (j := 31) (x := c3) (by omega) o3
  rw [HT.out] at k9'
  have kk9 : Hid (Ext w1 (w2.setCell ⟨g9, 31, none⟩ (.int .u8 (c3 : Int))) ∧ Ky (w2.setCell ⟨g9, 31, none⟩ (.int .u8 (c3 : Int))) g9 kt) := ⟨Ext.setCell x_ z9 _, k9'⟩
  clear k9 k9' x_ HX2 HT
  go_upto_region 7 with fail
  refine wp_gen (fun W => Ext w1 W ∧ Ky W g9 kt) kk9.out ?_
  clear kk9 c2 f2 q7 z9
  rintro w2 ⟨x_, k9⟩
  have P2 : Hid (∀ s, Ext w2 s → Ky s w.heap.size ka ∧ Ky s (w.heap.size + 1) kb ∧ Ky s g8 km ∧ Ky s g9 kt ∧ Ext w s) := fun s e => by
    obtain ⟨p0, p1, p2, p3⟩ := P1.out s (x_.trans e)
    exact ⟨p0, p1, p2, k9.ext e, p3⟩
  clear P1 x_ k9
  have q0 := Lib.hid (P2.out _ (Ext.refl _)).1
  have q1 := Lib.hid (P2.out _ (Ext.refl _)).2.1
  go_wp2_with (first
    | (refine wpList_load_row rfl 23 _ rfl w.heap.size rfl 23 (cellsOf ka).toArray (0, 0) _ q0.out.1 rfl rfl (by rw [S_ka]; rfl) ?_; simp only [Act.put, List.setIfInBounds_toArray, List.set_cons_zero, List.set_cons_succ])
    | (refine wpList_load_row rfl 23 _ rfl (w.heap.size + 1) rfl 23 (cellsOf kb).toArray (0, 0) _ q1.out.1 rfl rfl (by rw [S_kb]; rfl) ?_; simp only [Act.put, List.setIfInBounds_toArray, List.set_cons_zero, List.set_cons_succ]))
  refine (MU.out _ (P2.out _ (Ext.refl _)).2.2.2.2).mono ?_
  rintro e v_ ⟨rfl, e1⟩
  have a1 : Hid ((v_.alloc (Obj.cells (cellsOf zk).toArray 23)).heap[v_.heap.size]? = some (.cells (cellsOf zk).toArray 23 (0, 0))) := heap_alloc_new _ _
  have e5 : Ext v_ ((v_.alloc (Obj.cells (cellsOf zk).toArray 23)).setRow v_.heap.size (cellsOf kk).toArray) := below_setRow ((Ext.refl v_).alloc _) (Nat.le_refl _) _
  go_upto_region 8 with (refine wpList_store_row rfl 23 _ _ rfl v_.heap.size (cellsOf kk).toArray rfl rfl 23 _ a1.out (by rw [S_kk]; rfl) (by rw [S_kk, S_zk]) O_kk ?_; simp only [Act.put, List.setIfInBounds_toArray, List.set_cons_zero, List.set_cons_succ])
  obtain ⟨g3_s, hg_⟩ : ∃ g, g = v_.heap.size := ⟨_, rfl⟩
  refine wp_gen (fun W => Ext w2 W ∧ Ky W g3_s kk) ⟨e1.trans e5, ⟨by rw [hg_]; exact setRow_heap _ _ _ _ _ _ a1.out, L_kk⟩⟩ ?_
  rw [← hg_]
  clear hg_ a1 e5 e1 q0 q1
  rintro w3 ⟨x_, k0⟩
  have P3 : Hid (∀ s, Ext w3 s → Ky s w.heap.size ka ∧ Ky s (w.heap.size + 1) kb ∧ Ky s g8 km ∧ Ky s g9 kt ∧ Ky s g3_s kk ∧ Ext w s) := fun s e => by
    obtain ⟨p0, p1, p2, p3, p4⟩ := P2.out s (x_.trans e)
    exact ⟨p0, p1, p2, p3, k0.ext e, p4⟩
  clear P2 x_ k0
  refine wp_region_free (R := Ext) Ext.refl (fun _ _ _ => Ext.trans) [0, 1, 2, 3, 4, 5, 6, 7, 8, 9, 10, 11, 12, 13, 14, 15, 16, 17, 18, 19, 20, 21, 22, 23, 24, 25, 26, 27] [] [0, 1, 3, 3, 15, 3, 63, 127, 255, 511, 511, 2047, 511, 8191, 16383, 32767, 65535, 65535, 262143, 65535, 1048575, 2097151, 4194303, 8388607, 16777215, 33554431, 67108863, 134217727] [true, true, true, true, true, true, true, true, true, true, true, true, true, true, true, true, true, true, true, true, true, true, true, true, true, true, true, true] [(0, 36, 256), (1, 37, 68719476736), (2, 38, 137438953984), (2, 39, 137438953504), (14, 40, 962072674304), (2, 41, 137438955520), (50, 42, 3435973836800), (66, 43, 4535485464576), (144, 44, 8796093022208), (256, 45, 17592186044432), (256, 46, 17592186045440), (1792, 47, 123145302310912), (256, 48, 17592186046464), (6400, 49, 439804651110400), (8448, 50, 580542139465728), (18432, 51, 1125899906842624), (32768, 52, 2251799813685264), (32768, 53, 2251799813685248), (229376, 54, 15762598695796736), (32768, 55, 2251799813685248), (819200, 56, 56294995342131200), (1081344, 57, 74309393851613184), (2359296, 58, 144115188075855872), (4194304, 59, 288230376151713792), (12582912, 60, 864691128455135232), (20971520, 61, 1441151880758558720), (37748736, 62, 2594073385365405696), (134217727, 7, 4611686018427387904)] (by kernel_rfl) (by kernel_rfl) (by kernel_rfl) (by kernel_rfl) ?_
  refine free_det (fun _ => Ext.refl _) _ rfl (v := ?_) (d := 36) rfl rfl ?_ ?_
  rotate_left
  · intro a_ w_ hev hR hk
    have e7 : a_.eval (.tmp 7) = _ := hk 7 rfl
    clear hk
    generalize a_.eval = ev at *
    obtain ⟨hev1, hev2, hev3⟩ := hev
    go_simp
    (try with_reducible rfl)
  refine free_det (fun _ => Ext.refl _) _ rfl (v := ?_) (d := 37) rfl rfl ?_ ?_
  rotate_left
  · intro a_ w_ hev hR hk
    have e35 : a_.eval (.tmp 35) = _ := hk 35 rfl
    clear hk
    generalize a_.eval = ev at *
    obtain ⟨hev1, hev2, hev3⟩ := hev
    go_simp
    (try with_reducible rfl)
  refine free_detG (fun _ => Ext.refl _) _ rfl (v := .agg (cellsOf km).toArray) (d := 38) rfl 36 true rfl rfl (fun _ _ h => h) ?_ ?_
  · intro a_ w_ hev hR hk
    have e8 : a_.eval (.tmp 8) = _ := hk 8 rfl
    exact (exec_load_row rfl e8 (P3.out w_ (Ext.trans (Ext.refl _).drew hR)).2.2.1.1 rfl rfl (by rw [S_km]; rfl))
  refine free_detG (fun _ => Ext.refl _) _ rfl (v := .agg (cellsOf kb).toArray) (d := 39) rfl 36 true rfl rfl (fun _ _ h => h) ?_ ?_
  · intro a_ w_ hev hR hk
    have e4 : a_.eval (.tmp 4) = _ := hk 4 rfl
    exact (exec_load_row rfl e4 (P3.out w_ (Ext.trans (Ext.refl _).drew hR)).2.1.1 rfl rfl (by rw [S_kb]; rfl))
  refine free_stepG _ rfl (fun u _ => u = .agg (cellsOf kk).toArray) (d := 40) rfl (fun _ _ _ h _ => h) 36 true rfl rfl (fun _ _ h => h) ?_ ?_
  · intro a_ w_ hev hR hk K1 hK1
    have e37 : a_.eval (.tmp 37) = _ := hk 37 rfl
    have e38 : a_.eval (.tmp 38) = _ := hk 38 rfl
    clear hk
    have f37 := ev_get.trans e37
    have f38 := ev_get.trans e38
    go_simp
    refine (MS.out _ (P3.out w_ (Ext.trans (Ext.refl _).drew hR)).2.2.2.2.2).mono ?_
    rintro e_ w2_ ⟨rfl, x_⟩
    exact hK1.out _ _ x_ rfl
  refine free_detG (fun _ => Ext.refl _) _ rfl (v := .agg (cellsOf kk).toArray) (d := 41) rfl 36 true rfl rfl (fun _ _ h => h) ?_ ?_
  · intro a_ w_ hev hR hk
    have e10 : a_.eval (.tmp 10) = _ := hk 10 rfl
    exact (exec_load_row rfl e10 (P3.out w_ (Ext.trans (Ext.refl _).drew hR)).2.2.2.2.1.1 rfl rfl (by rw [S_kk]; rfl))
  refine free_detG (fun _ => Ext.refl _) _ rfl (v := .bool true) (d := 42) rfl 36 true rfl rfl (fun _ _ h => h) ?_ ?_
  · intro a_ w_ hev hR hk
    have e39 : a_.eval (.tmp 39) = _ := hk 39 rfl
    have e40 : a_.eval (.tmp 40) = _ := hk 40 rfl
    exact (exec_eql_keyB (xs := kk) (ys := kk) (decide_eq_true rfl) L_kk L_kk rfl e39 e40)
  refine free_det (fun _ => Ext.refl _) _ rfl (v := ?_) (d := 43) rfl rfl ?_ ?_
  rotate_left
  · intro a_ w_ hev hR hk
    have e36 : a_.eval (.tmp 36) = _ := hk 36 rfl
    have e41 : a_.eval (.tmp 41) = _ := hk 41 rfl
    clear hk
    generalize a_.eval = ev at *
    obtain ⟨hev1, hev2, hev3⟩ := hev
    go_simp
    (try with_reducible rfl)
  refine free_det (fun _ => Ext.refl _) _ rfl (v := ?_) (d := 44) rfl rfl ?_ ?_
  rotate_left
  · intro a_ w_ hev hR hk
    have e42 : a_.eval (.tmp 42) = _ := hk 42 rfl
    clear hk
    generalize a_.eval = ev at *
    obtain ⟨hev1, hev2, hev3⟩ := hev
    go_simp
    (try with_reducible rfl)
  refine free_detG (fun _ => Ext.refl _) _ rfl (v := .agg (cellsOf ka).toArray) (d := 45) rfl 43 true rfl rfl (fun _ _ h => h) ?_ ?_
  · intro a_ w_ hev hR hk
    have e3 : a_.eval (.tmp 3) = _ := hk 3 rfl
    exact (exec_load_row rfl e3 (P3.out w_ (Ext.trans (Ext.refl _).drew hR)).1.1 rfl rfl (by rw [S_ka]; rfl))
  refine free_detG (fun _ => Ext.refl _) _ rfl (v := .agg (cellsOf kt).toArray) (d := 46) rfl 43 true rfl rfl (fun _ _ h => h) ?_ ?_
  · intro a_ w_ hev hR hk
    have e9 : a_.eval (.tmp 9) = _ := hk 9 rfl
    exact (exec_load_row rfl e9 (P3.out w_ (Ext.trans (Ext.refl _).drew hR)).2.2.2.1.1 rfl rfl (by rw [S_kt]; rfl))
  refine free_stepG _ rfl (fun u _ => u = .agg (cellsOf kk).toArray) (d := 47) rfl (fun _ _ _ h _ => h) 43 true rfl rfl (fun _ _ h => h) ?_ ?_
  · intro a_ w_ hev hR hk K1 hK1
    have e44 : a_.eval (.tmp 44) = _ := hk 44 rfl
    have e45 : a_.eval (.tmp 45) = _ := hk 45 rfl
    clear hk
    have f44 := ev_get.trans e44
    have f45 := ev_get.trans e45
    go_simp
    refine (MT.out _ (P3.out w_ (Ext.trans (Ext.refl _).drew hR)).2.2.2.2.2).mono ?_
    rintro e_ w2_ ⟨rfl, x_⟩
    exact hK1.out _ _ x_ rfl
  refine free_detG (fun _ => Ext.refl _) _ rfl (v := .agg (cellsOf kk).toArray) (d := 48) rfl 43 true rfl rfl (fun _ _ h => h) ?_ ?_
  · intro a_ w_ hev hR hk
    have e10 : a_.eval (.tmp 10) = _ := hk 10 rfl
    exact (exec_load_row rfl e10 (P3.out w_ (Ext.trans (Ext.refl _).drew hR)).2.2.2.2.1.1 rfl rfl (by rw [S_kk]; rfl))
  refine free_detG (fun _ => Ext.refl _) _ rfl (v := .bool true) (d := 49) rfl 43 true rfl rfl (fun _ _ h => h) ?_ ?_
  · intro a_ w_ hev hR hk
    have e46 : a_.eval (.tmp 46) = _ := hk 46 rfl
    have e47 : a_.eval (.tmp 47) = _ := hk 47 rfl
    exact (exec_eql_keyB (xs := kk) (ys := kk) (decide_eq_true rfl) L_kk L_kk rfl e46 e47)
  refine free_det (fun _ => Ext.refl _) _ rfl (v := ?_) (d := 50) rfl rfl ?_ ?_
  rotate_left
  · intro a_ w_ hev hR hk
    have e43 : a_.eval (.tmp 43) = _ := hk 43 rfl
    have e48 : a_.eval (.tmp 48) = _ := hk 48 rfl
    clear hk
    generalize a_.eval = ev at *
    obtain ⟨hev1, hev2, hev3⟩ := hev
    go_simp
    (try with_reducible rfl)
  refine free_det (fun _ => Ext.refl _) _ rfl (v := ?_) (d := 51) rfl rfl ?_ ?_
  rotate_left
  · intro a_ w_ hev hR hk
    have e49 : a_.eval (.tmp 49) = _ := hk 49 rfl
    clear hk
    generalize a_.eval = ev at *
    obtain ⟨hev1, hev2, hev3⟩ := hev
    go_simp
    (try with_reducible rfl)
  refine free_detG (fun _ => Ext.refl _) _ rfl (v := .agg (cellsOf ka).toArray) (d := 52) rfl 50 true rfl rfl (fun _ _ h => h) ?_ ?_
  · intro a_ w_ hev hR hk
    have e3 : a_.eval (.tmp 3) = _ := hk 3 rfl
    exact (exec_load_row rfl e3 (P3.out w_ (Ext.trans (Ext.refl _).drew hR)).1.1 rfl rfl (by rw [S_ka]; rfl))
  refine free_detG (fun _ => Ext.refl _) _ rfl (v := .agg (cellsOf zk).toArray) (d := 53) rfl 50 true rfl rfl (fun _ _ h => h) ?_ ?_
  · intro a_ w_ hev hR hk
    exact (exec_build_as rfl (by simp only [List.map_toArray, List.map_cons, List.map_nil, hev.1]; exact b_zk.out))
  refine free_stepG _ rfl (fun u _ => u = .agg (cellsOf zk).toArray) (d := 54) rfl (fun _ _ _ h _ => h) 50 true rfl rfl (fun _ _ h => h) ?_ ?_
  · intro a_ w_ hev hR hk K1 hK1
    have e51 : a_.eval (.tmp 51) = _ := hk 51 rfl
    have e52 : a_.eval (.tmp 52) = _ := hk 52 rfl
    clear hk
    have f51 := ev_get.trans e51
    have f52 := ev_get.trans e52
    go_simp
    refine (MZ.out _ (P3.out w_ (Ext.trans (Ext.refl _).drew hR)).2.2.2.2.2).mono ?_
    rintro e_ w2_ ⟨rfl, x_⟩
    exact hK1.out _ _ x_ rfl
  refine free_detG (fun _ => Ext.refl _) _ rfl (v := .agg (cellsOf zk).toArray) (d := 55) rfl 50 true rfl rfl (fun _ _ h => h) ?_ ?_
  · intro a_ w_ hev hR hk
    exact (exec_build_as rfl (by simp only [List.map_toArray, List.map_cons, List.map_nil, hev.1]; exact b_zk.out))
  refine free_detG (fun _ => Ext.refl _) _ rfl (v := .bool true) (d := 56) rfl 50 true rfl rfl (fun _ _ h => h) ?_ ?_
  · intro a_ w_ hev hR hk
    have e53 : a_.eval (.tmp 53) = _ := hk 53 rfl
    have e54 : a_.eval (.tmp 54) = _ := hk 54 rfl
    exact (exec_eql_keyB (xs := zk) (ys := zk) (decide_eq_true rfl) L_zk L_zk rfl e53 e54)
  refine free_det (fun _ => Ext.refl _) _ rfl (v := ?_) (d := 57) rfl rfl ?_ ?_
  rotate_left
  · intro a_ w_ hev hR hk
    have e50 : a_.eval (.tmp 50) = _ := hk 50 rfl
    have e55 : a_.eval (.tmp 55) = _ := hk 55 rfl
    clear hk
    generalize a_.eval = ev at *
    obtain ⟨hev1, hev2, hev3⟩ := hev
    go_simp
    (try with_reducible rfl)
  refine free_det (fun _ => Ext.refl _) _ rfl (v := ?_) (d := 58) rfl rfl ?_ ?_
  rotate_left
  · intro a_ w_ hev hR hk
    have e56 : a_.eval (.tmp 56) = _ := hk 56 rfl
    clear hk
    generalize a_.eval = ev at *
    obtain ⟨hev1, hev2, hev3⟩ := hev
    go_simp
    (try with_reducible rfl)
  refine free_detG (fun _ => Ext.refl _) _ rfl (v := ?_) (d := 59) rfl 57 true rfl rfl (fun _ _ h => h) ?_ ?_
  rotate_left
  · intro a_ w_ hev hR hk
    have e10 : a_.eval (.tmp 10) = _ := hk 10 rfl
    clear hk
    generalize a_.eval = ev at *
    obtain ⟨hev1, hev2, hev3⟩ := hev
    go_simp
    (try with_reducible rfl)
  refine free_detG (fun _ => Ext.refl _) _ rfl (v := ?_) (d := 60) rfl 57 true rfl rfl (fun _ _ h => h) ?_ ?_
  rotate_left
  · intro a_ w_ hev hR hk
    have e58 : a_.eval (.tmp 58) = _ := hk 58 rfl
    clear hk
    have hF := (show w_.cell? ⟨g3_s, 31, none⟩ = some (.int .u8 (b31 : Int)) from by rw [← hb31.out]; exact ((P3.out w_ (Ext.trans (Ext.refl _).drew hR)).2.2.2.2.1).cell (by decide))
    generalize a_.eval = ev at *
    obtain ⟨hev1, hev2, hev3⟩ := hev
    go_simp
    (try with_reducible rfl)
  refine free_detG (fun _ => Ext.refl _) _ rfl (v := ?_) (d := 61) rfl 57 true rfl rfl (fun _ _ h => h) ?_ ?_
  rotate_left
  · intro a_ w_ hev hR hk
    have e59 : a_.eval (.tmp 59) = _ := hk 59 rfl
    clear hk
    have hF := (t128.out)
    generalize a_.eval = ev at *
    obtain ⟨hev1, hev2, hev3⟩ := hev
    go_simp
    (try with_reducible rfl)
  refine free_det (fun _ => Ext.refl _) _ rfl (v := ?_) (d := 62) rfl rfl ?_ ?_
  rotate_left
  · intro a_ w_ hev hR hk
    have e57 : a_.eval (.tmp 57) = _ := hk 57 rfl
    have e60 : a_.eval (.tmp 60) = _ := hk 60 rfl
    clear hk
    generalize a_.eval = ev at *
    obtain ⟨hev1, hev2, hev3⟩ := hev
    go_simp
    (try with_reducible rfl)
  refine free_det (fun _ => Ext.refl _) _ rfl (v := ?_) (d := 7) rfl rfl ?_ ?_
  rotate_left
  · intro a_ w_ hev hR hk
    have e61 : a_.eval (.tmp 61) = _ := hk 61 rfl
    clear hk
    generalize a_.eval = ev at *
    obtain ⟨hev1, hev2, hev3⟩ := hev
    go_simp
    (try with_reducible rfl)
  intro v_ w3q hR hV_ hN_
  obtain ⟨hv27, hv26, hv25, hv24, hv23, hv22, hv21, hv20, hv19, hv18, hv17, hv16, hv15, hv14, hv13, hv12, hv11, hv10, hv9, hv8, hv7, hv6, hv5, hv4, hv3, hv2, hv1, hv0, _⟩ := hV_
  replace hv0 : v_ 0 = _ := hv0
  replace hv1 : v_ 1 = _ := hv1
  replace hv2 : v_ 2 = _ := hv2
  replace hv3 : v_ 3 = _ := hv3
  replace hv4 : v_ 4 = _ := hv4
  replace hv5 : v_ 5 = _ := hv5
  replace hv6 : v_ 6 = _ := hv6
  replace hv7 : v_ 7 = _ := hv7
  replace hv8 : v_ 8 = _ := hv8
  replace hv9 : v_ 9 = _ := hv9
  replace hv10 : v_ 10 = _ := hv10
  replace hv11 : v_ 11 = _ := hv11
  replace hv12 : v_ 12 = _ := hv12
  replace hv13 : v_ 13 = _ := hv13
  replace hv14 : v_ 14 = _ := hv14
  replace hv15 : v_ 15 = _ := hv15
  replace hv16 : v_ 16 = _ := hv16
  replace hv17 : v_ 17 = _ := hv17
  replace hv18 : v_ 18 = _ := hv18
  replace hv19 : v_ 19 = _ := hv19
  replace hv20 : v_ 20 = _ := hv20
  replace hv21 : v_ 21 = _ := hv21
  replace hv22 : v_ 22 = _ := hv22
  replace hv23 : v_ 23 = _ := hv23
  replace hv24 : v_ 24 = _ := hv24
  replace hv25 : v_ 25 = _ := hv25
  replace hv26 : v_ 26 = _ := hv26
  replace hv27 : v_ 27 = _ := hv27
  dsimp only [putE, dOpt]
  clear hN_
  rw [hv0, hv1, hv2, hv3, hv4, hv5, hv6, hv7, hv8, hv9, hv10, hv11, hv12, hv13, hv14, hv15, hv16, hv17, hv18, hv19, hv20, hv21, hv22, hv23, hv24, hv25, hv26, hv27]
  simp only [Act.put, List.setIfInBounds_toArray, List.set_cons_zero, List.set_cons_succ]
  clear hv0 hv1 hv2 hv3 hv4 hv5 hv6 hv7 hv8 hv9 hv10 hv11 hv12 hv13 hv14 hv15 hv16 hv17 hv18 hv19 hv20 hv21 hv22 hv23 hv24 hv25 hv26 hv27
  refine any_nil (by kernel_rfl) ?_
  have EX := Lib.hid ((P3.out _ ((Ext.refl _).drew.trans hR)).2.2.2.2.2)
  clear P3 hR
  go_wp2_with fail
  go_ret
  exact ⟨rfl, EX.out⟩
end Go.Proofs.YtadnmiedmcckkaaDoor
