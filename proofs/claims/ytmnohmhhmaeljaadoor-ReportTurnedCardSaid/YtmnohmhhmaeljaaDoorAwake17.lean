/-
  palfreylaw17.relay, awake.
-/
import Derived.Test.YtmnohmhhmaeljaaDoorRRpMade17
import Derived.Test.YtmnohmhhmaeljaaDoorRpRead17
import Derived.Test.YtmnohmhhmaeljaaDoorRpCheck17
namespace Go.Proofs.YtmnohmhhmaeljaaDoor
open Go.ChangeShapes Go.WideShapes Go.ChangeAt Go.RowKit Go.Deep Go.Maps
set_option maxRecDepth 100000

def kB17 (x : Nat) : List UInt8 := UInt8.ofNat x :: List.replicate 31 0
theorem kB17_len (x : Nat) : (kB17 x).length = 32 := rfl
theorem key17_1 : Tryd.prog.built 24 [(0, .int .u8 1)] = some (cellsOf (kB17 1)).toArray := by kernel_rfl
theorem key17_2 : Tryd.prog.built 24 [(0, .int .u8 2)] = some (cellsOf (kB17 2)).toArray := by kernel_rfl
theorem mkS_of {root : List UInt8} {ticks : Nat} {f t now : Int} {cm : List UInt8} (h : mkOk f t now = true) : mkS root ticks f t cm now = ⟨((now.toNat / ticks : Nat) : Int), f, t, now, cm, tagL16 root (now.toNat / ticks) f.toNat t.toNat now.toNat cm⟩ := if_pos h
theorem mkOk_iff {f t now : Int} : mkOk f t now = true ↔ (0 ≤ now ∧ now ≤ 1000000) ∧ (0 ≤ f ∧ f ≤ 7) ∧ (0 ≤ t ∧ t ≤ 7) := by
  unfold mkOk upB
  simp only [Bool.and_eq_true, decide_eq_true_eq, and_assoc]
theorem mkS_valid {root : List UInt8} {ticks : Nat} {f t now : Int} {cm : List UInt8} (h : mkOk f t now = true) : (mkS root ticks f t cm now).valid = true := by
  rw [mkS_of h]
  obtain ⟨⟨a, b⟩, ⟨c, d⟩, ⟨e, g⟩⟩ := mkOk_iff.1 h
  have q : now.toNat / ticks ≤ now.toNat := Nat.div_le_self _ _
  generalize now.toNat / ticks = d at *
  show okS (d : Int) f t now = true
  unfold okS upB
  simp only [Bool.and_eq_true, decide_eq_true_eq]
  omega
theorem chk_mk {root : List UInt8} {ticks : Nat} {f t now z : Int} {cm : List UInt8} (h : mkOk f t now = true) (hz : 0 ≤ z ∧ z ≤ 1000000) : chkE root ticks (mkS root ticks f t cm now) z = if z < now ∨ now + 50 < z then 5 else 0 := by
  obtain ⟨_, _, _, R3⟩ := chk_facts (root := root) (ticks := ticks) (s := mkS root ticks f t cm now) (now := z)
  have hu : upB z 1000000 = true := by unfold upB; simp; omega
  have hv := mkS_valid (root := root) (ticks := ticks) (cm := cm) h
  rw [R3 (by rw [hv, hu]; rfl)]
  · rw [mkS_of h]
  · rw [mkS_of h]; exact Int.toNat_natCast _
  · rw [mkS_of h]; rw [Int.toNat_natCast]
theorem made_right {root op : List UInt8} {id f t now : Int} {txt : List UInt8} (h : mkOk f t now = true) (hi : 0 ≤ id ∧ id ≤ 1000000) (hn : txt.length ≤ 250) : (madeR root op id f t now txt).right = true := by
  unfold Rm.right
  have hv : (madeR root op id f t now txt).st.valid = true := mkS_valid h
  obtain ⟨_, _, ht⟩ := mkOk_iff.1 h
  have hb : besideB (madeR root op id f t now txt).id (madeR root op id f t now txt).whose (madeR root op id f t now txt).txt.length = true := besideB_iff.2 ⟨hi, ht, hn⟩
  rw [hv, hb]; rfl
theorem made_com {root op : List UInt8} {id f t now : Int} {txt : List UInt8} (h : mkOk f t now = true) : comR (madeR root op id f t now txt) = (madeR root op id f t now txt).st.cm ∧ (madeR root op id f t now txt).whose = (madeR root op id f t now txt).st.t := by
  unfold comR madeR
  dsimp only
  rw [mkS_of h]
  exact ⟨rfl, rfl⟩
theorem rows_le {r : Rm} (ok : r.ok) (h : r.right = true) : (joinL r.rows).length ≤ 400 := by
  obtain ⟨hb, hv⟩ := right_parts h
  obtain ⟨_, _, ht⟩ := besideB_iff.1 hb
  have l5 := bytesS_len ok.2 hv
  simp [Rm.rows, joinL, row4_len, hiB_len, ok.1, l5]
  omega
/-- What checking a report that was made says. -/
theorem chkR_made {root op : List UInt8} {id f t now z : Int} {txt : List UInt8} (h : mkOk f t now = true) (hi : 0 ≤ id ∧ id ≤ 1000000) (hn : txt.length ≤ 250) (hz : 0 ≤ z ∧ z ≤ 1000000) : chkR root 5 (madeR root op id f t now txt) z = if z < now ∨ now + 50 < z then 5 else 0 := by
  obtain ⟨m1, m2⟩ := made_com (root := root) (op := op) (id := id) (txt := txt) h
  have hc : chkE root 5 (madeR root op id f t now txt).st z = if z < now ∨ now + 50 < z then 5 else 0 := chk_mk h hz
  unfold chkR
  rw [made_right h hi hn, decide_eq_true m2, Bool.and_self, if_pos rfl, hc]
  by_cases q : z < now ∨ now + 50 < z
  · rw [if_pos q, if_neg (by decide)]
  · rw [if_neg q, if_pos rfl, if_pos m1]
set_option maxHeartbeats 4000000 in
theorem rel17_calls {w : World} {root : List UInt8} (lr : root.length = 32) :
    Calls Tryd.prog 20 #[.agg (cellsOf root).toArray] w fun e w' => ∃ (g b q : Nat), e = .returned (.pointer (some ⟨g, 0, none⟩)) ∧ (w.heap.size ≤ g ∧ w.heap.size ≤ b ∧ w.heap.size ≤ q) ∧ SR w' g b q root 5 [] ∧ Ext w w' := by
  have NW : Hid (∀ W : World, Calls Tryd.prog 36 #[.agg (cellsOf root).toArray, .int .i64 5] W fun e w' => ∃ (g b q : Nat), e = .returned (.tuple #[.pointer (some ⟨g, 0, none⟩), .int .i64 0]) ∧ (W.heap.size ≤ g ∧ W.heap.size ≤ b ∧ W.heap.size ≤ q) ∧ SR w' g b q root 5 [] ∧ Ext W w') := fun W => snew16_ok (n := 5) lr (by omega) (by omega)
  have S_r : (cellsOf root).toArray.size = 32 := by simp [cellsOf_len, lr]
  have B0 : Hid (Cb (w.alloc (Obj.cells (cellsOf root).toArray 24)) w.heap.size 24 (cellsOf root) ∧ Ext w (w.alloc (Obj.cells (cellsOf root).toArray 24))) := ⟨Cb.new _ _ _, (Ext.refl w).alloc _⟩
  go_enter Tryd.func20, Tryd.ntmps20
  go_upto_region 1 with fail
  obtain ⟨r, hr⟩ : ∃ x, x = w.heap.size := ⟨_, rfl⟩
  refine wp_gen (fun W => Cb W w.heap.size 24 (cellsOf root) ∧ Ext w W) B0.out ?_
  rw [← hr]
  clear B0 hr
  rintro w0 ⟨k0, x0⟩
  replace k0 := Lib.hid k0
  replace x0 := Lib.hid x0
  go_wp2_with (first | ((with_reducible refine wpList_load_rowW (o := ⟨some 6, _, _, _, _, _⟩) ?_ 24 _ rfl r ?_ 24 (cellsOf root).toArray (0, 0) _ ?_ Tryd.underlying24 ?_ ?_ ?_); (· rfl); (· rfl); (· exact k0.out); (· rfl); (· rw [S_r]; rfl); go_frame))
  refine (NW.out _).mono ?_
  rintro e w1 ⟨g, b, q, rfl, ⟨hg, hb, hq⟩, s1, x1⟩
  have F : Hid ((w.heap.size ≤ g ∧ w.heap.size ≤ b ∧ w.heap.size ≤ q) ∧ SR w1 g b q root 5 [] ∧ Ext w w1) := by
    have := x0.out.size
    exact ⟨⟨by omega, by omega, by omega⟩, s1, x0.out.trans x1⟩
  clear NW k0 x0 s1 x1 hg hb hq
  go_wp2_with fail
  go_ret
  exact ⟨g, b, q, rfl, F.out⟩
set_option maxHeartbeats 16000000 in
theorem awake17_calls {w : World} {tg : TypeId × Nat × Nat} (hG : Gl w tg) :
    Calls Tryd.prog 14 #[] w fun e w' => e = .returned (.bool true) ∧ Ext w w' := by
  have hk : mkOk 4 5 6 = true := rfl
  have okM := madeR_ok (root := kB17 1) (kB17_len 2) 3 4 5 6 [120]
  have rM := made_right (root := kB17 1) (op := kB17 2) (id := 3) (txt := [120]) hk (by omega) (by decide)
  have cM : chkR (kB17 1) 5 (madeR (kB17 1) (kB17 2) 3 4 5 6 [120]) 7 = 0 := (chkR_made hk (by omega) (by decide) (by omega)).trans rfl
  have MD : Hid (∀ (W : World) (A : Option Addr), Bs W A 1 1 [120] → Calls Tryd.prog 23 #[.agg (cellsOf (kB17 1)).toArray, .agg (cellsOf (kB17 2)).toArray, .int .i64 3, .int .i64 4, .int .i64 5, .int .i64 6, .slice A 1 1] W fun e w' => e = .returned (.agg (rpC 3 5 A 1 1 (kB17 2) (madeR (kB17 1) (kB17 2) 3 4 5 6 [120]).st.C).toArray) ∧ Ext W w') := fun W A h => made17_calls (kB17_len 1) (kB17_len 2) h (by omega)
  obtain ⟨e1, e2⟩ := read_bytesR okM rM
  have e3 := (bytesRp_facts.2 rM).2
  have e4 : (bytesRp (madeR (kB17 1) (kB17 2) 3 4 5 6 [120])).length ≤ 1000000 := by
    rw [(bytesRp_facts.2 rM).1]
    have := rows_le okM rM
    omega
  have BY : Hid (∀ (W : World) (A : Option Addr), Bs W A 1 1 [120] → Calls Tryd.prog 15 #[.agg (rpC 3 5 A 1 1 (kB17 2) (madeR (kB17 1) (kB17 2) 3 4 5 6 [120]).st.C).toArray] W (RetBsE (bytesRp (madeR (kB17 1) (kB17 2) 3 4 5 6 [120])) 0 W)) := fun W A h => by
    have := bytes17_calls (w := W) (r := madeR (kB17 1) (kB17 2) 3 4 5 6 [120]) (A := A) (c := 1) okM h (by decide)
    rw [e3] at this
    exact this
  have RD : Hid (∀ (W : World) (A : Option Addr) (n c : Nat), Bs W A n c (bytesRp (madeR (kB17 1) (kB17 2) 3 4 5 6 [120])) → Calls Tryd.prog 17 #[.slice A n c] W (RetRp (madeR (kB17 1) (kB17 2) 3 4 5 6 [120]) 0 W)) := fun W A n c h => by
    have := read17_calls h (by rw [← h.len]; exact e4)
    rw [e1, e2] at this
    exact this
  have CK : Hid (∀ (W : World) (g b q : Nat) (A : Option Addr) (n c : Nat), SR W g b q (kB17 1) 5 [] → Gl W tg → Bs W A n c [120] → Calls Tryd.prog 21 #[.pointer (some ⟨g, 0, none⟩), .agg (rpC 3 5 A n c (kB17 2) (madeR (kB17 1) (kB17 2) 3 4 5 6 [120]).st.C).toArray, .int .i64 7] W fun e w' => e = .returned (.int .i64 0) ∧ Told W g b q (kB17 1) 5 0 w') := fun W g b q A n c h k hb => by
    obtain rfl : 1 = n := hb.len
    have := check17_calls (r := madeR (kB17 1) (kB17 2) 3 4 5 6 [120]) (A := A) (c := c) h (Nat.zero_le _) (by omega) (by omega) okM hb (now := 7) k
    rw [cM] at this
    exact this
  have RL : Hid (∀ W : World, Calls Tryd.prog 20 #[.agg (cellsOf (kB17 1)).toArray] W fun e w' => ∃ (g b q : Nat), e = .returned (.pointer (some ⟨g, 0, none⟩)) ∧ (W.heap.size ≤ g ∧ W.heap.size ≤ b ∧ W.heap.size ≤ q) ∧ SR w' g b q (kB17 1) 5 [] ∧ Ext W w') := fun W => rel17_calls (kB17_len 1)
  have okS := okM.2
  have RF : Hid (∀ (er : Int) (W : World) (e : Ending) (W' : World), RetRp (madeR (kB17 1) (kB17 2) 3 4 5 6 [120]) er W e W' → ∃ A n c, e = .returned (.tuple #[.agg (rpC 3 5 A n c (kB17 2) (madeR (kB17 1) (kB17 2) 3 4 5 6 [120]).st.C).toArray, .int .i64 er]) ∧ Bs W' A n c [120] ∧ Ext W W') := fun er W e W' h => h
  generalize bytesRp (madeR (kB17 1) (kB17 2) 3 4 5 6 [120]) = MB at *
  obtain ⟨M, hM⟩ : ∃ x, x = madeR (kB17 1) (kB17 2) 3 4 5 6 [120] := ⟨_, rfl⟩
  rw [← hM] at RD RF MD BY CK okS
  clear hM okM rM cM e1 e2 e3 e4 hk
  have L_m := Sm.C_len okS
  have lo := kB17_len 2
  have LR : Hid (∀ A n c, (rpC 3 5 A n c (kB17 2) M.st.C).length = 103) := fun A n c => rpC_len lo L_m _ _ _ _ _
  have OR : Hid (∀ A n c, (rpC 3 5 A n c (kB17 2) M.st.C).toArray.all (·.oneCell') = true) := fun A n c => one_cells one_rp
  have C0 : Hid (∀ A n c, (rpC 3 5 A n c (kB17 2) M.st.C)[0]? = some (.int .i64 3)) := fun A n c => rfl
  obtain ⟨fR, hfR⟩ : ∃ f : Option Addr → Nat → Nat → List Value, f = fun A n c => rpC 3 5 A n c (kB17 2) M.st.C := ⟨_, rfl⟩
  have e0 : ∀ A n c, rpC 3 5 A n c (kB17 2) M.st.C = fR A n c := fun A n c => by rw [hfR]
  simp only [e0] at MD BY CK RF LR OR C0
  clear e0 hfR okS L_m lo
  have hal := report_alloc
  have L_z := zRC_len
  generalize zRC = ZC at *
  have S_z : ZC.toArray.size = 103 := by rw [List.size_toArray, L_z]
  have kb1 := Lib.hid key17_1
  have kb2 := Lib.hid key17_2
  generalize (cellsOf (kB17 1)).toArray = K1 at *
  generalize (cellsOf (kB17 2)).toArray = K2 at *
  have hcv := conv_const w #[.int .u8 120] 1 1
  have b0 : Hid (Bs (w.alloc (.cells #[.int .u8 120] 5 (1, 2))) (some ⟨w.heap.size, 0, none⟩) 1 1 [120] ∧ Ext w (w.alloc (.cells #[.int .u8 120] 5 (1, 2)))) := ⟨Bs.of_list (w := w.alloc (.cells #[.int .u8 120] 5 (1, 2))) (cs := #[.int .u8 120]) (t := 5) (fr := (1, 2)) rfl (by show (w.heap.push _)[w.heap.size]? = _; simp) ⟨rfl, by omega⟩, (Ext.refl w).alloc _⟩
  obtain ⟨x, hx⟩ : ∃ x, x = w.heap.size := ⟨_, rfl⟩
  have GE : Hid (∀ u, Ext w u → Gl u tg) := fun u e => hG.kept e hG.lt
  clear hG
  go_enter Tryd.func14, Tryd.ntmps14
  go_wp2_with (first
    | ((with_reducible refine wpList_build_as (o := ⟨some 7, .build 24 _, _, _, _, _⟩) ?_ 24 _ rfl K1 ?_ ?_); (· rfl); (· simp only [List.map_toArray, List.map_cons, List.map_nil]; exact kb1.out); go_frame)
    | ((with_reducible refine wpList_build_as (o := ⟨some 8, .build 24 _, _, _, _, _⟩) ?_ 24 _ rfl K2 ?_ ?_); (· rfl); (· simp only [List.map_toArray, List.map_cons, List.map_nil]; exact kb2.out); go_frame))
  refine (MD.out _ _ b0.out.1).mono ?_
  rw [← hx]
  rintro e w1 ⟨rfl, x1⟩
  have b1 : Hid (Bs w1 (some ⟨x, 0, none⟩) 1 1 [120]) := by rw [hx]; exact b0.out.1.ext x1
  have X1 : Hid (Ext w w1) := b0.out.2.trans x1
  clear hx b0 x1 MD hcv kb2
  have l1 := LR.out (some ⟨x, 0, none⟩) 1 1
  have S_1 : (fR (some ⟨x, 0, none⟩) 1 1).toArray.size = 103 := by rw [List.size_toArray, l1]
  have O_1 := OR.out (some ⟨x, 0, none⟩) 1 1
  have B1 : Hid (Cb ((w1.alloc (.cells ZC.toArray 28)).setRow w1.heap.size (fR (some ⟨x, 0, none⟩) 1 1).toArray) w1.heap.size 28 (fR (some ⟨x, 0, none⟩) 1 1) ∧ Ext w1 ((w1.alloc (.cells ZC.toArray 28)).setRow w1.heap.size (fR (some ⟨x, 0, none⟩) 1 1).toArray)) := ⟨Cb.set (Cb.new _ _ _), Ext.newRow _ _ _⟩
  have BY1 := Lib.hid (fun W h => BY.out W (some ⟨x, 0, none⟩) h)
  clear BY
  go_upto_region 2 with (refine wpList_store_row rfl 28 _ _ rfl w1.heap.size (fR (some ⟨x, 0, none⟩) 1 1).toArray rfl rfl 28 ZC.toArray (heap_alloc_new _ _) (by rw [S_1]; rfl) (by rw [S_1, S_z]) O_1 ?_; simp only [Act.put])
  refine wp_gen (fun W => Cb W w1.heap.size 28 (fR (some ⟨x, 0, none⟩) 1 1) ∧ Ext w1 W) B1.out ?_
  generalize w1.heap.size = g1 at *
  generalize fR (some ⟨x, 0, none⟩) 1 1 = R1 at *
  clear B1
  rintro w2 ⟨k1, x2⟩
  have BY2 := Lib.hid (BY1.out w2 (b1.out.ext x2))
  have X2 := Lib.hid (X1.out.trans x2)
  replace k1 := Lib.hid k1
  clear BY1 b1 X1 x2
  go_wp2_with (first | ((with_reducible refine wpList_load_rowW (o := ⟨some 13, _, _, _, _, _⟩) ?_ 28 _ rfl g1 ?_ 28 R1.toArray (0, 0) _ ?_ Tryd.underlying28 ?_ ?_ ?_); (· rfl); (· rfl); (· exact k1.out); (· rfl); (· rw [S_1]; rfl); go_frame))
  refine BY2.out.mono ?_
  rintro e w3 ⟨A3, n3, c3, rfl, b3, x3⟩
  have RD3 := Lib.hid (RD.out w3 _ _ _ b3)
  have X3 := Lib.hid (X2.out.trans x3)
  clear BY2 X2 x3 b3 RD k1
  go_wp2_with fail
  refine RD3.out.mono ?_
  rintro e w4 hret
  obtain ⟨A4, n4, c4, rfl, b4, x4⟩ := RF.out _ _ _ _ hret
  have X4 := Lib.hid (X3.out.trans x4)
  have l4 := LR.out A4 n4 c4
  have S_4 : (fR A4 n4 c4).toArray.size = 103 := by rw [List.size_toArray, l4]
  have O_4 := OR.out A4 n4 c4
  have C4 := Lib.hid (C0.out A4 n4 c4)
  have CK4 := Lib.hid (fun W g b q => CK.out W g b q A4 n4 c4)
  have B4 : Hid (Cb ((w4.alloc (.cells ZC.toArray 28)).setRow w4.heap.size (fR A4 n4 c4).toArray) w4.heap.size 28 (fR A4 n4 c4) ∧ Ext w4 ((w4.alloc (.cells ZC.toArray 28)).setRow w4.heap.size (fR A4 n4 c4).toArray)) := ⟨Cb.set (Cb.new _ _ _), Ext.newRow _ _ _⟩
  clear RD3 hret RF X3 x4 LR OR C0 CK
  replace b4 := Lib.hid b4
  go_upto_region 4 with (refine wpList_store_row rfl 28 _ _ rfl w4.heap.size (fR A4 n4 c4).toArray rfl rfl 28 ZC.toArray (heap_alloc_new _ _) (by rw [S_4]; rfl) (by rw [S_4, S_z]) O_4 ?_; simp only [Act.put])
  refine wp_gen (fun W => Cb W w4.heap.size 28 (fR A4 n4 c4) ∧ Ext w4 W) B4.out ?_
  generalize w4.heap.size = g4 at *
  generalize fR A4 n4 c4 = R4 at *
  clear B4 hal
  rintro w5 ⟨k5, x5⟩
  replace k5 := Lib.hid k5
  replace x5 := Lib.hid x5
  go_wp2_with (first | ((with_reducible refine wpList_build_as (o := ⟨some 22, .build 24 _, _, _, _, _⟩) ?_ 24 _ rfl K1 ?_ ?_); (· rfl); (· simp only [List.map_toArray, List.map_cons, List.map_nil]; exact kb1.out); go_frame))
  refine (RL.out _).mono ?_
  rintro e w6 ⟨g, b, q, rfl, ⟨_, hb, _⟩, s6, x6⟩
  have k6 := Lib.hid (k5.out.ext x6)
  have X6 := Lib.hid (X4.out.trans (x5.out.trans x6))
  have CK6 := Lib.hid (CK4.out w6 g b q s6 (GE.out w6 X6.out) (b4.out.ext (x5.out.trans x6)))
  have f0 := k6.out.cell C4.out
  have wb : w.heap.size ≤ b := by have := (X4.out.trans x5.out).size; omega
  clear RL CK4 s6 x6 x5 k5 b4 X4 C4 hb kb1 GE
  go_wp2_with (first | ((with_reducible refine wpList_load_rowW (o := ⟨some 41, _, _, _, _, _⟩) ?_ 28 _ rfl g4 ?_ 28 R4.toArray (0, 0) _ ?_ Tryd.underlying28 ?_ ?_ ?_); (· rfl); (· rfl); (· exact k6.out); (· rfl); (· rw [S_4]; rfl); go_frame))
  refine CK6.out.mono ?_
  rintro e w7 ⟨rfl, _, gr7⟩
  have F : Hid (Ext w w7) := Below.trans X6.out ⟨gr7.os, gr7.tape, gr7.output, gr7.size, fun i hi => gr7.block i (Nat.lt_of_lt_of_le hi X6.out.size) (fun z => by have := Option.some.inj z; omega)⟩
  clear CK6 gr7 k6 X6
  go_wp2_with fail
  go_ret
  exact ⟨rfl, F.out⟩
end Go.Proofs.YtmnohmhhmaeljaaDoor
