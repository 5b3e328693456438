import Derived.Test.YtmnohmhhmaeljaaDoorRRpRead17
import Derived.Test.YtmnohmhhmaeljaaDoorRStamp16
import Derived.Test.YtmnohmhhmaeljaaDoorRpCheck17
import Derived.Test.YtmnohmhhmaeljaaDoorPkB
/-
  The document's Made: a good report.
-/
namespace Go.Proofs.YtmnohmhhmaeljaaDoor
open Go.ChangeShapes Go.WideShapes Go.ChangeAt Go.RowKit Go.Deep Go.Maps
set_option maxRecDepth 100000

theorem env_ftc {f t : Int} {cm : List UInt8} (lc : cm.length = 32) : Tryd.prog.built 55 [(0, .int .i64 f), (1, .int .i64 t), (2, .agg (cellsOf cm).toArray)] = some (evC f t cm (List.replicate 32 0) 0 0 none 0 0).toArray := by
  have h : ∃ pl : Nat → Option (Nat × Nat), (pl 0 = some (0, 1) ∧ pl 1 = some (1, 1) ∧ pl 2 = some (2, 32)) ∧ ∀ ps, Tryd.prog.built 55 ps = Instr.fill pl (evC 0 0 (List.replicate 32 0) (List.replicate 32 0) 0 0 none 0 0).toArray ps := ⟨(#[(0, 1), (1, 1), (2, 32), (34, 34), (68, 1)][·]?), ⟨rfl, rfl, rfl⟩, fun ps => by kernel_rfl⟩
  obtain ⟨pl, ⟨h0, h1, h2⟩, hp⟩ := h
  have e : evC 0 0 (List.replicate 32 0) (List.replicate 32 0) 0 0 none 0 0 = .int .i64 0 :: .int .i64 0 :: (cellsOf (List.replicate 32 0) ++ (hdC (List.replicate 32 0) 0 0 ++ [.slice none 0 0])) := rfl
  have e' : evC f t cm (List.replicate 32 0) 0 0 none 0 0 = [.int .i64 f, .int .i64 t] ++ (cellsOf cm ++ (hdC (List.replicate 32 0) 0 0 ++ [.slice none 0 0])) := rfl
  rw [hp, e, e']
  have hZ : (cellsOf (List.replicate 32 0)).length = 32 := by simp [cellsOf_len]
  generalize cellsOf (List.replicate 32 0) = Z at *
  generalize hdC (List.replicate 32 0) 0 0 ++ [.slice none 0 0] = T at *
  have hC : (cellsOf cm).length = 32 := by rw [cellsOf_len, lc]
  have s0 : ∀ ps, Instr.fill pl (.int .i64 0 :: .int .i64 0 :: (Z ++ T) : List Value).toArray ((0, .int .i64 f) :: ps) = Instr.fill pl (.int .i64 f :: .int .i64 0 :: (Z ++ T) : List Value).toArray ps := fun ps => (fill_step h0 rfl (by simp)).trans rfl
  have s1 : ∀ ps, Instr.fill pl (.int .i64 f :: .int .i64 0 :: (Z ++ T) : List Value).toArray ((1, .int .i64 t) :: ps) = Instr.fill pl (.int .i64 f :: .int .i64 t :: (Z ++ T) : List Value).toArray ps := fun ps => (fill_step h1 rfl (by simp)).trans rfl
  have s2 : Instr.fill pl (.int .i64 f :: .int .i64 t :: (Z ++ T) : List Value).toArray [(2, .agg (cellsOf cm).toArray)] = Instr.fill pl ([.int .i64 f, .int .i64 t] ++ (cellsOf cm ++ T) : List Value).toArray [] := by
    rw [show (.int .i64 f :: .int .i64 t :: (Z ++ T) : List Value) = [.int .i64 f, .int .i64 t] ++ (Z ++ T) from rfl, fill_step h2 (by rw [cells_agg]; simp [hC]) (by simp [hZ]), cells_agg]
    have := splice_mid (p := [Value.int .i64 f, .int .i64 t]) (y := Z) (q := T) (z := cellsOf cm) (off := 2) rfl (by rw [hZ, hC])
    rw [this]
  rw [s0, s1, s2]
  rfl
theorem report_built5 {id whose : Int} {A : Option Addr} {n c : Nat} {op : List UInt8} {SX : List Value} (lo : op.length = 32) (hS : SX.length = 68) : Tryd.prog.built 28 [(0, .int .i64 id), (1, .int .i64 whose), (2, .slice A n c), (3, .agg (cellsOf op).toArray), (4, .agg SX.toArray)] = some (rpC id whose A n c op SX).toArray := by
  have h : ∃ pl : Nat → Option (Nat × Nat), (pl 0 = some (0, 1) ∧ pl 1 = some (1, 1) ∧ pl 2 = some (2, 1) ∧ pl 3 = some (3, 32) ∧ pl 4 = some (35, 68)) ∧ ∀ ps, Tryd.prog.built 28 ps = Instr.fill pl zRC.toArray ps := ⟨(#[(0, 1), (1, 1), (2, 1), (3, 32), (35, 68)][·]?), ⟨rfl, rfl, rfl, rfl, rfl⟩, fun ps => by kernel_rfl⟩
  obtain ⟨pl, ⟨h0, h1, h2, h3, h4⟩, hp⟩ := h
  have e : zRC = .int .i64 0 :: .int .i64 0 :: .slice none 0 0 :: (cellsOf (List.replicate 32 0) ++ zSm.C) := rfl
  have hZ : zSm.C.length = 68 := Sm.C_len zSm_ok
  have hO : (cellsOf (List.replicate 32 0)).length = 32 := by simp [cellsOf_len]
  have hC : (cellsOf op).length = 32 := by rw [cellsOf_len, lo]
  rw [hp, e]
  unfold rpC
  generalize cellsOf (List.replicate 32 0) = Z at *
  generalize zSm.C = ZS at *
  have s0 : ∀ ps, Instr.fill pl (.int .i64 0 :: .int .i64 0 :: .slice none 0 0 :: (Z ++ ZS) : List Value).toArray ((0, .int .i64 id) :: ps) = Instr.fill pl (.int .i64 id :: .int .i64 0 :: .slice none 0 0 :: (Z ++ ZS) : List Value).toArray ps := fun ps => (fill_step h0 rfl (by simp)).trans rfl
  have s1 : ∀ ps, Instr.fill pl (.int .i64 id :: .int .i64 0 :: .slice none 0 0 :: (Z ++ ZS) : List Value).toArray ((1, .int .i64 whose) :: ps) = Instr.fill pl (.int .i64 id :: .int .i64 whose :: .slice none 0 0 :: (Z ++ ZS) : List Value).toArray ps := fun ps => (fill_step h1 rfl (by simp)).trans rfl
  have s2 : ∀ ps, Instr.fill pl (.int .i64 id :: .int .i64 whose :: .slice none 0 0 :: (Z ++ ZS) : List Value).toArray ((2, .slice A n c) :: ps) = Instr.fill pl ([.int .i64 id, .int .i64 whose, .slice A n c] ++ (Z ++ ZS) : List Value).toArray ps := fun ps => (fill_step h2 rfl (by simp)).trans rfl
  have s3 : ∀ ps, Instr.fill pl ([.int .i64 id, .int .i64 whose, .slice A n c] ++ (Z ++ ZS) : List Value).toArray ((3, .agg (cellsOf op).toArray) :: ps) = Instr.fill pl (([.int .i64 id, .int .i64 whose, .slice A n c] ++ cellsOf op) ++ (ZS ++ []) : List Value).toArray ps := fun ps => by
    rw [fill_step h3 (by rw [cells_agg]; simp [hC]) (by simp [hO]), cells_agg]
    have := splice_mid (p := [Value.int .i64 id, .int .i64 whose, .slice A n c]) (y := Z) (q := ZS) (z := cellsOf op) (off := 3) rfl (by rw [hO, hC])
    rw [this]
    simp
  have s4 : Instr.fill pl (([.int .i64 id, .int .i64 whose, .slice A n c] ++ cellsOf op) ++ (ZS ++ []) : List Value).toArray [(4, .agg SX.toArray)] = Instr.fill pl ([.int .i64 id, .int .i64 whose, .slice A n c] ++ (cellsOf op ++ SX) : List Value).toArray [] := by
    rw [fill_step h4 (by rw [cells_agg]; simp [hS]) (by simp [hC, hZ]), cells_agg]
    have := splice_mid (p := [Value.int .i64 id, .int .i64 whose, .slice A n c] ++ cellsOf op) (y := ZS) (q := []) (z := SX) (off := 35) (by simp [hC]) (by rw [hZ, hS])
    rw [this]
    simp
  rw [s0, s1, s2, s3, s4]
  rfl
/-- The report that is made. -/
def madeR (root op : List UInt8) (id f t now : Int) (txt : List UInt8) : Rm := ⟨id, t, txt, op, mkS root 5 f t (macL op (joinL [[u8I f], [u8I t], txt])) now⟩
theorem madeR_ok {root op : List UInt8} (lo : op.length = 32) (id f t now : Int) (txt : List UInt8) : (madeR root op id f t now txt).ok := ⟨lo, mkS_ok _ _ _ _ _ (macL_len _ _)⟩
set_option maxHeartbeats 16000000 in
theorem made17_calls {w : World} {root op : List UInt8} (lr : root.length = 32) (lo : op.length = 32) {id f t now : Int} {A : Option Addr} {n c : Nat} {txt : List UInt8} (hb : Bs w A n c txt) (hn : n ≤ 1000) :
    Calls Tryd.prog 23 #[.agg (cellsOf root).toArray, .agg (cellsOf op).toArray, .int .i64 id, .int .i64 f, .int .i64 t, .int .i64 now, .slice A n c] w fun e w' => e = .returned (.agg (rpC id t A n c op (madeR root op id f t now txt).st.C).toArray) ∧ Ext w w' := by
  have hcl : (joinL [[u8I f], [u8I t], txt]).length ≤ 1000000 := by simp [joinL, row4_len, hb.len]; omega
  have MK : Hid (∀ (W : World) (C : Option Addr), Rw W C 3 3 [[u8I f], [u8I t], txt] → Calls Tryd.prog 64 #[.agg (cellsOf op).toArray, .slice C 3 3] W fun e w' => e = .returned (.agg (cellsOf (macL op (joinL [[u8I f], [u8I t], txt]))).toArray) ∧ Ext W w') := fun W C r => make14_calls lo r hcl
  have lC : (macL op (joinL [[u8I f], [u8I t], txt])).length = 32 := macL_len _ _
  have hst : Hid ((madeR root op id f t now txt).st = mkS root 5 f t (macL op (joinL [[u8I f], [u8I t], txt])) now) := rfl
  generalize (madeR root op id f t now txt).st = s at *
  generalize macL op (joinL [[u8I f], [u8I t], txt]) = CO at *
  have ST : Hid (∀ (W : World), Calls Tryd.prog 65 #[.agg (cellsOf root).toArray, .int .i64 5, .agg (evC f t CO (List.replicate 32 0) 0 0 none 0 0).toArray, .int .i64 now] W fun e w' => e = .returned (.tuple #[.agg s.C.toArray, .int .i64 (mkE f t now)]) ∧ Ext W w') := fun W => by rw [hst.out]; exact rstamp16_calls (ticks := 5) lr (by omega) (by omega) lC rfl
  have oks : s.ok := by rw [hst.out]; exact mkS_ok _ _ _ _ _ lC
  have EB := Lib.hid (env_ftc (f := f) (t := t) lC)
  have L_s := Sm.C_len oks
  have O_s : s.C.toArray.all (·.oneCell') = true := one_cells s.one
  have RB := Lib.hid (report_built5 (id := id) (whose := t) (A := A) (n := n) (c := c) lo L_s)
  have L_r := rpC_len lo L_s id t A n c
  have O_r : (rpC id t A n c op s.C).toArray.all (·.oneCell') = true := one_cells one_rp
  generalize rpC id t A n c op s.C = LR at *
  generalize evC f t CO (List.replicate 32 0) 0 0 none 0 0 = EV at *
  generalize s.C = SC at *
  generalize mkE f t now = me at *
  have U1 := u8I_wrap f
  have U2 := u8I_wrap t
  generalize u8I f = y1 at *
  generalize u8I t = y2 at *
  clear hst oks hcl
  have S_s : SC.toArray.size = 68 := by rw [List.size_toArray, L_s]
  have S_r : LR.toArray.size = 103 := by rw [List.size_toArray, L_r]
  have hal := report_alloc
  have hst := stamp_alloc16
  have hky := key_alloc
  have L_z := zRC_len
  generalize zRC = ZC at *
  have S_z : ZC.toArray.size = 103 := by rw [List.size_toArray, L_z]
  have L_Z := Sm.C_len zSm_ok
  generalize zSm.C = ZS at *
  have S_Z : ZS.toArray.size = 68 := by rw [List.size_toArray, L_Z]
  have S_k := zeros32_size
  generalize zeros32 = ZK at *
  clear L_Z L_z
  have K_r : (cellsOf root).toArray.size = 32 := by simp [cellsOf_len, lr]
  have K_o : (cellsOf op).toArray.size = 32 := by simp [cellsOf_len, lo]
  have K_c : (cellsOf CO).toArray.size = 32 := by simp [cellsOf_len, lC]
  have O_c := cellsOf_one CO
  obtain ⟨r, hr⟩ : ∃ x, x = w.heap.size := ⟨_, rfl⟩
  have B0 : Hid (∀ W, W = ((w.alloc (Obj.cells (cellsOf root).toArray 24)).alloc (Obj.cells (cellsOf op).toArray 24)).alloc (Obj.cells ZC.toArray 28) → Cb W r 24 (cellsOf root) ∧ Cb W (r + 1) 24 (cellsOf op) ∧ Cb W (r + 2) 28 ZC ∧ Ext w W) := by
    rintro W rfl
    rw [hr]
    exact ⟨heap_alloc30 _ _ _ _, heap_alloc31 _ _ _ _, heap_alloc32 _ _ _ _, (((Ext.refl w).alloc _).alloc _).alloc _⟩
  replace hb := Lib.hid hb
  go_enter Tryd.func23, Tryd.ntmps23
  go_upto_region 1 with fail
  refine wp_gen (fun W => Cb W r 24 (cellsOf root) ∧ Cb W (r + 1) 24 (cellsOf op) ∧ Cb W (r + 2) 28 ZC ∧ Ext w W) (B0.out _ rfl) ?_
  rw [← hr]
  clear B0
  have wr : w.heap.size ≤ r := Nat.le_of_eq hr.symm
  replace hr := Lib.hid hr
  obtain ⟨r1, hr1⟩ : ∃ x, x = r + 1 := ⟨_, rfl⟩
  obtain ⟨r2, hr2⟩ : ∃ x, x = r + 2 := ⟨_, rfl⟩
  rw [show r + 1 + 1 = r + 2 from rfl, ← hr1, ← hr2]
  have wr2 : w.heap.size ≤ r2 := by omega
  have r12 : r2 ≠ r ∧ r2 ≠ r1 := by omega
  replace hr1 := Lib.hid hr1
  replace hr2 := Lib.hid hr2
  rintro w0 ⟨kr, ko, kz, x0⟩
  have P0 : Hid (∀ u, Ext w0 u → Cb u r 24 (cellsOf root) ∧ Cb u r1 24 (cellsOf op) ∧ Cb u r2 28 ZC ∧ Bs u A n c txt ∧ Ext w u) := fun u x => ⟨kr.ext x, ko.ext x, kz.ext x, hb.out.ext (x0.trans x), x0.trans x⟩
  have rl : r2 < w0.heap.size := kz.lt
  have R1 : Hid (∀ W W', W' = (W.alloc (.cells #[.int .u8 (y1.toNat : Int)] 5)).alloc (.cells #[.int .u8 (y2.toNat : Int)] 5) → Ext w0 W → Ext w0 W' ∧ Rw (W'.alloc (.cells #[.slice (some ⟨W.heap.size, 0, none⟩) 1 1, .slice (some ⟨W.heap.size + 1, 0, none⟩) 1 1, .slice A n c] 22)) (some ⟨W.heap.size + 1 + 1, 0, none⟩) 3 3 [[y1], [y2], txt]) := by
    rintro W W' rfl x
    have x1 : Ext W (W.alloc (.cells #[.int .u8 (y1.toNat : Int)] 5)) := (Ext.refl W).alloc _
    have b1 := Bs.one8 W 5 y1 _ rfl
    have b2 := Bs.one8 (W.alloc (.cells #[.int .u8 (y1.toNat : Int)] 5)) 5 y2 _ rfl
    rw [size_alloc] at b2
    have q := rw_lit3 (t := 22) (b1.ext ((Ext.refl _).alloc _)) b2 ((P0.out _ (x.trans (x1.alloc _))).2.2.2.1)
    rw [size_alloc, size_alloc] at q
    exact ⟨x.trans (x1.alloc _), q⟩
  clear kr ko kz x0 hb
  have k1 := Lib.hid (P0.out w0 (Ext.refl _)).2.1
  go_wp2_with (first | ((with_reducible refine wpList_load_rowW (o := ⟨some 18, _, _, _, _, _⟩) ?_ 24 _ rfl r1 ?_ 24 (cellsOf op).toArray (0, 0) _ ?_ Tryd.underlying24 ?_ ?_ ?_); (· rfl); (· rfl); (· exact k1.out); (· rfl); (· rw [K_o]; rfl); go_frame))
  refine (MK.out _ _ (R1.out w0 _ rfl (Ext.refl _)).2).mono ?_
  rintro e w1 ⟨rfl, x1⟩
  have X1 : Hid (Ext w0 w1) := ((R1.out w0 _ rfl (Ext.refl _)).1.alloc _).trans x1
  have B1 : Hid (Cb ((w1.alloc (.cells ZK 24)).setRow w1.heap.size (cellsOf CO).toArray) w1.heap.size 24 (cellsOf CO) ∧ Ext w1 ((w1.alloc (.cells ZK 24)).setRow w1.heap.size (cellsOf CO).toArray)) := ⟨setRow_heap _ _ _ _ _ _ (heap_alloc_new _ _), Ext.newRow _ _ _⟩
  clear MK R1 k1 x1 U1 U2
  go_upto_region 2 with (refine wpList_store_row rfl 24 _ _ rfl w1.heap.size (cellsOf CO).toArray rfl rfl 24 ZK (heap_alloc_new _ _) (by rw [K_c]; rfl) (by rw [K_c]; exact S_k) O_c ?_; simp only [Act.put])
  refine wp_gen (fun W => Cb W w1.heap.size 24 (cellsOf CO) ∧ Ext w1 W) B1.out ?_
  generalize w1.heap.size = g15 at *
  clear B1 hky
  rintro w2 ⟨k15, x2⟩
  have P2 : Hid (∀ u, Ext w2 u → Cb u r 24 (cellsOf root) ∧ Cb u r1 24 (cellsOf op) ∧ Cb u r2 28 ZC ∧ Ext w u) := fun u x => ⟨(P0.out u (X1.out.trans (x2.trans x))).1, (P0.out u (X1.out.trans (x2.trans x))).2.1, (P0.out u (X1.out.trans (x2.trans x))).2.2.1, (P0.out u (X1.out.trans (x2.trans x))).2.2.2.2⟩
  clear P0 X1 x2
  have kr := Lib.hid (P2.out w2 (Ext.refl _)).1
  replace k15 := Lib.hid k15
  go_wp2_with (first
    | ((with_reducible refine wpList_load_rowW (o := ⟨some 29, _, _, _, _, _⟩) ?_ 24 _ rfl r ?_ 24 (cellsOf root).toArray (0, 0) _ ?_ Tryd.underlying24 ?_ ?_ ?_); (· rfl); (· rfl); (· exact kr.out); (· rfl); (· rw [K_r]; rfl); go_frame)
    | ((with_reducible refine wpList_load_rowW (o := ⟨some 32, _, _, _, _, _⟩) ?_ 24 _ rfl g15 ?_ 24 (cellsOf CO).toArray (0, 0) _ ?_ Tryd.underlying24 ?_ ?_ ?_); (· rfl); (· rfl); (· exact k15.out); (· rfl); (· rw [K_c]; rfl); go_frame)
    | ((with_reducible refine wpList_build_as (o := ⟨some 33, .build 55 _, _, _, _, _⟩) ?_ 55 _ rfl EV.toArray ?_ ?_); (· rfl); (· simp only [List.map_toArray, List.map_cons, List.map_nil]; exact EB.out); go_frame))
  refine (ST.out _).mono ?_
  rintro e w3 ⟨rfl, x3⟩
  have B3 : Hid (Cb ((w3.alloc (.cells ZS.toArray 26)).setRow w3.heap.size SC.toArray) w3.heap.size 26 SC ∧ Ext w3 ((w3.alloc (.cells ZS.toArray 26)).setRow w3.heap.size SC.toArray)) := ⟨Cb.set (Cb.new _ _ _), Ext.newRow _ _ _⟩
  replace x3 := Lib.hid x3
  clear ST kr k15 EB
  go_upto_region 3 with (refine wpList_store_row rfl 26 _ _ rfl w3.heap.size SC.toArray rfl rfl 26 ZS.toArray (heap_alloc_new _ _) (by rw [S_s]; rfl) (by rw [S_s, S_Z]) O_s ?_; simp only [Act.put])
  refine wp_gen (fun W => Cb W w3.heap.size 26 SC ∧ Ext w3 W) B3.out ?_
  generalize w3.heap.size = g16 at *
  clear B3 hst
  rintro w4 ⟨k16, x4⟩
  obtain ⟨_, p1, p2, p3⟩ := P2.out w4 (x3.out.trans x4)
  have F : Hid (Ext w (w4.setRow r2 LR.toArray)) := below_setRow p3 wr2 _
  replace p1 := Lib.hid p1
  replace k16 := Lib.hid k16
  clear P2 x3 x4 p3
  go_wp2_with (first
    | ((with_reducible refine wpList_load_rowW (o := ⟨some 41, _, _, _, _, _⟩) ?_ 24 _ rfl r1 ?_ 24 (cellsOf op).toArray (0, 0) _ ?_ Tryd.underlying24 ?_ ?_ ?_); (· rfl); (· rfl); (· exact p1.out); (· rfl); (· rw [K_o]; rfl); go_frame)
    | ((with_reducible refine wpList_load_rowW (o := ⟨some 42, _, _, _, _, _⟩) ?_ 26 _ rfl g16 ?_ 26 SC.toArray (0, 0) _ ?_ Tryd.underlying26 ?_ ?_ ?_); (· rfl); (· rfl); (· exact k16.out); (· rfl); (· rw [S_s]; rfl); go_frame)
    | ((with_reducible refine wpList_build_as (o := ⟨some 43, .build 28 _, _, _, _, _⟩) ?_ 28 _ rfl LR.toArray ?_ ?_); (· rfl); (· simp only [List.map_toArray, List.map_cons, List.map_nil]; exact RB.out); go_frame)
    | (refine wpList_store_row rfl 28 _ _ rfl r2 LR.toArray rfl rfl 28 ZC.toArray p2 (by rw [S_r]; rfl) (by rw [S_r, S_z]) O_r ?_; simp only [Act.put]))
  (try simp only [Exit.inBlock, Exit.then])
  refine bodyPost_ret (results_cell_row rfl _ _ r2 28 LR.toArray (0, 0) _ rfl (setRow_heap _ _ _ _ _ _ p2) rfl rfl (by rw [S_r]; rfl)) rfl ?_
  exact ⟨rfl, F.out⟩
end Go.Proofs.YtmnohmhhmaeljaaDoor
