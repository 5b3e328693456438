/-
  palfreylaw17.ReportTurned.
-/
import Derived.Test.YtmnohmhhmaeljaaDoorAwake17
import Derived.Test.YtmnohmhhmaeljaaDoorWin16
namespace Go.Proofs.YtmnohmhhmaeljaaDoor
open Go.ChangeShapes Go.WideShapes Go.ChangeAt Go.RowKit Go.Deep Go.Maps
set_option maxRecDepth 100000

theorem and31 (z : Int) : ∃ a : Nat, a < 32 ∧ bits .and .i64 z 31 = (a : Int) := by
  have h : (BitVec.ofInt 64 z &&& BitVec.ofInt 64 31).toNat < 32 := by
    rw [BitVec.toNat_and]
    exact Nat.and_lt_two_pow _ (n := 5) (by decide)
  refine ⟨_, h, ?_⟩
  show IntKind.i64.wrap ((BitVec.ofInt 64 z &&& BitVec.ofInt 64 31).toNat : Int) = _
  exact IntWalk.i64_in _ (by omega)
/-- What checks of the report that was made, of it with its tag turned, and of another one's say. -/
theorem turned_facts {root op txt : List UInt8} {k : Nat} (hk : k ≤ 900000) (hn : txt.length ≤ 250) :
    ∃ s : Sm, (madeR root op 3 4 5 (k : Int) txt).st = s ∧ s.ok ∧ s.t = 5 ∧
      (∀ z : Int, 0 ≤ z ∧ z ≤ 1000000 → chkR root 5 ⟨3, 5, txt, op, s⟩ z = if z < (k : Int) ∨ (k : Int) + 50 < z then 5 else 0) ∧
      (∀ i, i < 32 → chkR root 5 ⟨3, 5, txt, op, { s with tg := flip s.tg i 0 }⟩ (k : Int) = 4) ∧
      (chkR root 5 ⟨3, 4, txt, op, s⟩ (k : Int) = 1) := by
  have hm : mkOk 4 5 (k : Int) = true := mkOk_iff.2 (by omega)
  refine ⟨_, rfl, mkS_ok _ _ _ _ _ (macL_len _ _), ?_, fun z hz => ?_, fun i hi => ?_, ?_⟩
  · show (mkS root 5 4 5 _ (k : Int)).t = 5
    rw [mkS_of hm]
  · exact chkR_made (root := root) (op := op) (id := 3) (txt := txt) hm (by omega) hn hz
  · show chkR root 5 ⟨3, 5, txt, op, { mkS root 5 4 5 (macL op (joinL [[u8I 4], [u8I 5], txt])) (k : Int) with tg := flip (mkS root 5 4 5 (macL op (joinL [[u8I 4], [u8I 5], txt])) (k : Int)).tg i 0 }⟩ (k : Int) = 4
    obtain ⟨w1, _, _, w4⟩ := win_facts (root := root) (n := 5) (f := 4) (t := 5) (k := k) (j := k) (cm := macL op (joinL [[u8I 4], [u8I 5], txt])) (by omega) (by omega) (by omega) (by omega) (by omega)
    have w1' : mkS root 5 4 5 (macL op (joinL [[u8I 4], [u8I 5], txt])) (k : Int) = _ := w1
    rw [w1']
    dsimp only
    have w5 := w4 i hi
    unfold chkR
    dsimp only
    have hv : Sm.valid ⟨((k / 5 : Nat) : Int), ((4 : Nat) : Int), ((5 : Nat) : Int), (k : Int), macL op (joinL [[u8I 4], [u8I 5], txt]), flip (tagL16 root (k / 5) 4 5 k (macL op (joinL [[u8I 4], [u8I 5], txt]))) i 0⟩ = true := by
      have := mkS_valid (root := root) (ticks := 5) (cm := macL op (joinL [[u8I 4], [u8I 5], txt])) hm
      rw [w1'] at this
      exact this
    have hr : (⟨3, 5, txt, op, ⟨((k / 5 : Nat) : Int), ((4 : Nat) : Int), ((5 : Nat) : Int), (k : Int), macL op (joinL [[u8I 4], [u8I 5], txt]), flip (tagL16 root (k / 5) 4 5 k (macL op (joinL [[u8I 4], [u8I 5], txt]))) i 0⟩⟩ : Rm).right = true := by
      unfold Rm.right
      dsimp only
      rw [hv, besideB_iff.2 ⟨by omega, by omega, hn⟩]
      rfl
    rw [hr, w5]
    rfl
  · have ht : (madeR root op 3 4 5 (k : Int) txt).st.t = 5 := by
      show (mkS root 5 4 5 _ (k : Int)).t = 5
      rw [mkS_of hm]
    unfold chkR
    dsimp only
    rw [ht]
    simp
theorem rp_flip {id whose : Int} {A : Option Addr} {n c : Nat} {op : List UInt8} {s : Sm} (lo : op.length = 32) (ok : s.ok) {i : Nat} (hi : i < 32) : (rpC id whose A n c op s.C).set (71 + i) (.int .u8 ((bt s.tg i ^^^ 2 ^ 0 : Nat) : Int)) = rpC id whose A n c op ({ s with tg := flip s.tg i 0 } : Sm).C := by
  have q := st_flip (ep := s.ep) (f := s.f) (t := s.t) (tm := s.tm) ok.1 ok.2 hi
  have l1 : (cellsOf op).length = 32 := by rw [cellsOf_len, lo]
  unfold rpC
  rw [List.set_append_right _ _ (by simp; omega), List.set_append_right _ _ (by simp [l1]; omega)]
  rw [show 71 + i - [Value.int .i64 id, .int .i64 whose, .slice A n c].length - (cellsOf op).length = 36 + i by simp [l1]; omega]
  exact congrArg (fun z => [Value.int .i64 id, .int .i64 whose, .slice A n c] ++ (cellsOf op ++ z)) q
theorem rp_tag {id whose : Int} {A : Option Addr} {n c : Nat} {op : List UInt8} {s : Sm} (lo : op.length = 32) (ok : s.ok) {i : Nat} (hi : i < 32) : (rpC id whose A n c op s.C)[71 + i]? = some (.int .u8 (bt s.tg i : Int)) := by
  have l1 : (cellsOf op).length = 32 := by rw [cellsOf_len, lo]
  have l2 : (cellsOf s.cm).length = 32 := by rw [cellsOf_len, ok.1]
  have l3 : (cellsOf s.tg).length = 32 := by rw [cellsOf_len, ok.2]
  unfold rpC Sm.C stC
  rw [List.getElem?_append_right (by simp; omega), List.getElem?_append_right (by simp [l1]; omega), List.getElem?_append_right (by simp [l1]; omega), List.getElem?_append_right (by simp [l1, l2]; omega)]
  rw [show 71 + i - [Value.int .i64 id, .int .i64 whose, .slice A n c].length - (cellsOf op).length - [Value.int .i64 s.ep, .int .i64 s.f, .int .i64 s.t, .int .i64 s.tm].length - (cellsOf s.cm).length = i by simp [l1, l2]; omega]
  rw [cellsOf_get (by rw [ok.2]; exact hi)]
set_option maxHeartbeats 16000000 in
theorem turned17_calls {w : World} {root : List UInt8} (lr : root.length = 32) {A : Option Addr} {n c : Nat} {txt : List UInt8} (hb : Bs w A n c txt) {y0 y1 y2 : Int} {tg : TypeId × Nat × Nat} (hG : Gl w tg) :
    Calls Tryd.prog 6 #[.agg (cellsOf root).toArray, .slice A n c, .agg #[.int .i64 y0, .int .i64 y1, .int .i64 y2]] w fun e w' => e = .returned (.bool true) ∧ Ext w w' := by
  have AW : Hid (∀ W : World, Ext w W → Calls Tryd.prog 14 #[] W fun e w' => e = .returned (.bool true) ∧ Ext W w') := fun W x => awake17_calls (hG.kept x hG.lt)
  have RL : Hid (∀ W : World, Calls Tryd.prog 20 #[.agg (cellsOf root).toArray] W fun e w' => ∃ (g b q : Nat), e = .returned (.pointer (some ⟨g, 0, none⟩)) ∧ (W.heap.size ≤ g ∧ W.heap.size ≤ b ∧ W.heap.size ≤ q) ∧ SR w' g b q root 5 [] ∧ Ext W w') := fun W => rel17_calls lr
  have S_k : (cellsOf root).toArray.size = 32 := by simp [cellsOf_len, lr]
  obtain ⟨rk, hrk⟩ : ∃ r, r = w.heap.size := ⟨_, rfl⟩
  have B0 : Hid (Cb ((w.alloc (.cells (cellsOf root).toArray 24)).alloc (.cells #[.int .i64 y0, .int .i64 y1, .int .i64 y2] 42)) rk 24 (cellsOf root) ∧ Cb ((w.alloc (.cells (cellsOf root).toArray 24)).alloc (.cells #[.int .i64 y0, .int .i64 y1, .int .i64 y2] 42)) (rk + 1) 42 [.int .i64 y0, .int .i64 y1, .int .i64 y2] ∧ Ext w ((w.alloc (.cells (cellsOf root).toArray 24)).alloc (.cells #[.int .i64 y0, .int .i64 y1, .int .i64 y2] 42))) := by rw [hrk]; exact ⟨heap_alloc1 _ _ _, heap_alloc2 _ _ _, ((Ext.refl w).alloc _).alloc _⟩
  have hn1 := hb.le
  have hn2 := hb.cap
  have hl := hb.len
  replace hb := Lib.hid hb
  replace hl := Lib.hid hl
  go_enter Tryd.func6, Tryd.ntmps6
  go_upto_region 1 with fail
  refine wp_gen (fun W => Cb W rk 24 (cellsOf root) ∧ Cb W (rk + 1) 42 [.int .i64 y0, .int .i64 y1, .int .i64 y2] ∧ Ext w W) B0.out ?_
  rw [← hrk]
  clear B0
  obtain ⟨rx, hrx⟩ : ∃ x, x = rk + 1 := ⟨_, rfl⟩
  rw [← hrx]
  replace hrk := Lib.hid hrk
  replace hrx := Lib.hid hrx
  rintro w0 ⟨kk, k0, x0⟩
  have P0 : Hid (∀ u, Ext w0 u → Cb u rk 24 (cellsOf root) ∧ Cb u rx 42 [.int .i64 y0, .int .i64 y1, .int .i64 y2] ∧ Ext w u) := fun u x => ⟨kk.ext x, k0.ext x, x0.trans x⟩
  have A0 := Lib.hid (AW.out w0 x0)
  clear AW kk k0 x0
  go_wp2_with fail
  refine A0.out.mono ?_
  rintro e w1 ⟨rfl, x1⟩
  have k1 := Lib.hid (P0.out w1 x1).1
  have P1 : Hid (∀ u, Ext w1 u → Cb u rk 24 (cellsOf root) ∧ Cb u rx 42 [.int .i64 y0, .int .i64 y1, .int .i64 y2] ∧ Ext w u) := fun u x => P0.out u (x1.trans x)
  clear A0 P0 x1
  go_wp2_with (first | ((with_reducible refine wpList_load_rowW (o := ⟨some 14, _, _, _, _, _⟩) ?_ 24 _ rfl rk ?_ 24 (cellsOf root).toArray (0, 0) _ ?_ Tryd.underlying24 ?_ ?_ ?_); (· rfl); (· rfl); (· exact k1.out); (· rfl); (· rw [S_k]; rfl); go_frame))
  refine (RL.out _).mono ?_
  rintro e w2 ⟨g, mb, q, rfl, ⟨_, hmb, _⟩, s2, x2⟩
  obtain ⟨kr2, kx2, z2⟩ := P1.out w2 x2
  have f0 := kx2.cell (j := 0) (v := .int .i64 y0) rfl
  have f1 := kx2.cell (j := 1) (v := .int .i64 y1) rfl
  have f2 := kx2.cell (j := 2) (v := .int .i64 y2) rfl
  have P2 : Hid (∀ u, w2.grownBy u (some mb) → Cb u rk 24 (cellsOf root) ∧ Cb u rx 42 [.int .i64 y0, .int .i64 y1, .int .i64 y2] ∧ Ext w u) := fun u y => by
    have x : Ext w1 u := Below.trans x2 ⟨y.os, y.tape, y.output, y.size, fun i hi => y.block i (Nat.lt_of_lt_of_le hi x2.size) (fun z => by have := Option.some.inj z; omega)⟩
    exact P1.out u x
  have GE : Hid (∀ u, w2.grownBy u (some mb) → Gl u tg) := fun u y => ((hG.kept z2 hG.lt)).grown s2.mp y
  have mb2 : mb < w2.heap.size := s2.mp.lt
  replace kr2 := Lib.hid kr2
  replace s2 := Lib.hid s2
  have y_2 := Lib.hid z2
  clear RL k1 P1 x2 kx2 z2 hG hmb
  by_cases h0 : 250 < n
  · have d0 : decide ((250 : Int) < (n : Int)) = true := decide_eq_true (by omega)
    clear P2 s2 GE kr2
    go_wp2_with fail
    go_ret
    exact ⟨rfl, y_2.out⟩
  have d0 : decide ((250 : Int) < (n : Int)) = false := decide_eq_false (by omega)
  by_cases h1 : y0 < 0
  · have d1 : decide (y0 < (0 : Int)) = true := decide_eq_true (by omega)
    clear P2 s2 GE kr2
    go_wp2_with fail
    go_ret
    exact ⟨rfl, y_2.out⟩
  have d1 : decide (y0 < (0 : Int)) = false := decide_eq_false (by omega)
  by_cases h2 : 900000 < y0
  · have d2 : decide ((900000 : Int) < y0) = true := decide_eq_true (by omega)
    clear P2 s2 GE kr2
    go_wp2_with fail
    go_ret
    exact ⟨rfl, y_2.out⟩
  have d2 : decide ((900000 : Int) < y0) = false := decide_eq_false (by omega)
  by_cases h3 : y1 < 0
  · have d3 : decide (y1 < (0 : Int)) = true := decide_eq_true (by omega)
    clear P2 s2 GE kr2
    go_wp2_with fail
    go_ret
    exact ⟨rfl, y_2.out⟩
  have d3 : decide (y1 < (0 : Int)) = false := decide_eq_false (by omega)
  by_cases h4 : y2 < 0
  · have d4 : decide (y2 < (0 : Int)) = true := decide_eq_true (by omega)
    clear P2 s2 GE kr2
    go_wp2_with fail
    go_ret
    exact ⟨rfl, y_2.out⟩
  have d4 : decide (y2 < (0 : Int)) = false := decide_eq_false (by omega)
  by_cases h5 : 100 < y2
  · have d5 : decide ((100 : Int) < y2) = true := decide_eq_true (by omega)
    clear P2 s2 GE kr2
    go_wp2_with fail
    go_ret
    exact ⟨rfl, y_2.out⟩
  have d5 : decide ((100 : Int) < y2) = false := decide_eq_false (by omega)
  obtain ⟨k, rfl⟩ : ∃ k : Nat, y0 = (k : Int) := ⟨y0.toNat, by omega⟩
  obtain ⟨j, rfl⟩ : ∃ j : Nat, y2 = (j : Int) := ⟨y2.toNat, by omega⟩
  obtain ⟨ii, hii, hand⟩ := and31 y1
  obtain ⟨s, hs, oks, hst, C1, C2, C3⟩ := turned_facts (root := root) (op := kB17 2) (txt := txt) (k := k) (by omega) (by rw [hl.out]; omega)
  have lo := kB17_len 2
  have MD : Hid (∀ (W : World), Ext w W → Calls Tryd.prog 23 #[.agg (cellsOf root).toArray, .agg (cellsOf (kB17 2)).toArray, .int .i64 3, .int .i64 4, .int .i64 5, .int .i64 (k : Int), .slice A n c] W fun e w' => e = .returned (.agg (rpC 3 5 A n c (kB17 2) s.C).toArray) ∧ Ext W w') := fun W x => by
    have := made17_calls (w := W) lr lo (id := 3) (f := 4) (t := 5) (now := (k : Int)) (hb.out.ext x) (by omega)
    rw [hs] at this
    exact this
  have CK : Hid (∀ (W : World) (E : List (Value × Value)) (wh : Int) (t : Sm) (z : Int), SR W g mb q root 5 E → E.length ≤ 1000 → t.ok → w2.grownBy W (some mb) → Calls Tryd.prog 21 #[.pointer (some ⟨g, 0, none⟩), .agg (rpC 3 wh A n c (kB17 2) t.C).toArray, .int .i64 z] W fun e w' => e = .returned (.int .i64 (chkR root 5 ⟨3, wh, txt, kB17 2, t⟩ z)) ∧ Told W g mb q root 5 E.length w') := fun W E wh t z h hE ht y => by
    have hW : Bs W A txt.length c txt := by rw [hl.out]; exact hb.out.ext (P2.out W y).2.2
    have := check17_calls (r := ⟨3, wh, txt, kB17 2, t⟩) (A := A) (c := c) h (by omega) (by omega) (by omega) ⟨lo, ht⟩ hW (now := z) (GE.out W y)
    dsimp only at this
    rw [hl.out] at this
    exact this
  have okf : ({ s with tg := flip s.tg ii 0 } : Sm).ok := ⟨oks.1, by rw [flip_len]; exact oks.2⟩
  have K1 := Lib.hid (fun W E z h hE y => CK.out W E 5 s z h hE oks y)
  have K2 := Lib.hid (fun W E h hE y => CK.out W E 5 { s with tg := flip s.tg ii 0 } (k : Int) h hE okf y)
  have K3 := Lib.hid (fun W E h hE y => CK.out W E 4 s (k : Int) h hE oks y)
  have C2' := C2 ii hii
  rw [C2'] at K2
  rw [C3] at K3
  have L_1 := rpC_len lo (Sm.C_len oks) 3 5 A n c
  have L_2 := rpC_len lo (Sm.C_len okf) 3 5 A n c
  have L_3 := rpC_len lo (Sm.C_len oks) 3 4 A n c
  have O_1 : (rpC 3 5 A n c (kB17 2) s.C).toArray.all (·.oneCell') = true := one_cells one_rp
  have HF := Lib.hid (rp_flip (id := 3) (whose := 5) (A := A) (n := n) (c := c) lo oks hii)
  have HT := Lib.hid (rp_tag (id := 3) (whose := 5) (A := A) (n := n) (c := c) lo oks hii)
  have H4 : Hid ((rpC 3 5 A n c (kB17 2) s.C).set 1 (.int .i64 4) = rpC 3 4 A n c (kB17 2) s.C) := rfl
  have H5 : Hid ((rpC 3 5 A n c (kB17 2) s.C)[1]? = some (.int .i64 5)) := rfl
  obtain ⟨y, hy⟩ : ∃ y, y = bt s.tg ii ^^^ 2 ^ 0 := ⟨_, rfl⟩
  have fx : bits .xor .u8 (bt s.tg ii : Int) 1 = (y : Int) := by
    have := flip_int (xs := s.tg) (j := ii) (k := 0) (by omega)
    rw [hy, ← this]
    rfl
  rw [← hy] at HF
  clear hy CK C2 C2' C3 hs hst okf hl
  generalize bt s.tg ii = yt at *
  generalize rpC 3 5 A n c (kB17 2) ({ s with tg := flip s.tg ii 0 } : Sm).C = R2 at *
  generalize rpC 3 5 A n c (kB17 2) s.C = R1 at *
  generalize rpC 3 4 A n c (kB17 2) s.C = R3 at *
  have CW : Hid (∀ z : Int, 0 ≤ z ∧ z ≤ 1000000 → chkR root 5 ⟨3, 5, txt, kB17 2, s⟩ z = if z < (k : Int) ∨ (k : Int) + 50 < z then 5 else 0) := C1
  clear C1 oks lo
  obtain ⟨fc, hfc⟩ : ∃ f : Int → Int, f = fun z => chkR root 5 ⟨3, 5, txt, kB17 2, s⟩ z := ⟨_, rfl⟩
  have e0 : ∀ z, chkR root 5 ⟨3, 5, txt, kB17 2, s⟩ z = fc z := fun z => by rw [hfc]
  simp only [e0] at K1 CW
  clear e0 hfc
  have S_1 : R1.toArray.size = 103 := by rw [List.size_toArray, L_1]
  have S_2 : R2.toArray.size = 103 := by rw [List.size_toArray, L_2]
  have S_3 : R3.toArray.size = 103 := by rw [List.size_toArray, L_3]
  have hal := report_alloc
  have L_z := zRC_len
  generalize zRC = ZC at *
  have S_z : ZC.toArray.size = 103 := by rw [List.size_toArray, L_z]
  have kb2 := Lib.hid key17_2
  generalize (cellsOf (kB17 2)).toArray = KK at *
  have MD2 := Lib.hid (MD.out w2 y_2.out)
  clear MD L_z L_3
  go_upto_region 5 with fail
  clear d0 d1 d2 d3 d4 d5 f1 f2
  go_wp2_with (first
    | ((with_reducible refine wpList_load_rowW (o := ⟨some 53, _, _, _, _, _⟩) ?_ 24 _ rfl rk ?_ 24 (cellsOf root).toArray (0, 0) _ ?_ Tryd.underlying24 ?_ ?_ ?_); (· rfl); (· rfl); (· exact kr2.out); (· rfl); (· rw [S_k]; rfl); go_frame)
    | ((with_reducible refine wpList_build_as (o := ⟨some 54, .build 24 _, _, _, _, _⟩) ?_ 24 _ rfl KK ?_ ?_); (· rfl); (· simp only [List.map_toArray, List.map_cons, List.map_nil]; exact kb2.out); go_frame))
  refine MD2.out.mono ?_
  rintro e w3 ⟨rfl, x3⟩
  have B3 : Hid (Cb ((w3.alloc (.cells ZC.toArray 28)).setRow w3.heap.size R1.toArray) w3.heap.size 28 R1 ∧ Ext w3 ((w3.alloc (.cells ZC.toArray 28)).setRow w3.heap.size R1.toArray)) := ⟨Cb.set (Cb.new _ _ _), Ext.newRow _ _ _⟩
  have G3 := x3.size
  replace x3 := Lib.hid x3
  clear MD2 kr2 kb2 f0
  go_upto_region 6 with (refine wpList_store_row rfl 28 _ _ rfl w3.heap.size R1.toArray rfl rfl 28 ZC.toArray (heap_alloc_new _ _) (by rw [S_1]; rfl) (by rw [S_1, S_z]) O_1 ?_; simp only [Act.put])
  refine wp_gen (fun W => Cb W w3.heap.size 28 R1 ∧ Ext w3 W) B3.out ?_
  have g9m : mb < w3.heap.size := by omega
  generalize w3.heap.size = g9 at *
  clear B3
  rintro w4 ⟨k9, x4⟩
  have X4 := Lib.hid (x3.out.trans x4)
  have k9' := Lib.hid k9
  have g9l := k9.lt
  have B4 : Hid (Cb ((w4.alloc (.cells ZC.toArray 28)).setRow w4.heap.size R1.toArray) w4.heap.size 28 R1 ∧ Cb ((w4.alloc (.cells ZC.toArray 28)).setRow w4.heap.size R1.toArray) g9 28 R1 ∧ Ext w4 ((w4.alloc (.cells ZC.toArray 28)).setRow w4.heap.size R1.toArray)) := ⟨Cb.set (Cb.new _ _ _), k9.ext (Ext.newRow _ _ _), Ext.newRow _ _ _⟩
  clear k9 x3 x4
  go_upto_region 7 with (first
    | ((with_reducible refine wpList_load_rowW (o := ⟨some 59, _, _, _, _, _⟩) ?_ 28 _ rfl g9 ?_ 28 R1.toArray (0, 0) _ ?_ Tryd.underlying28 ?_ ?_ ?_); (· rfl); (· rfl); (· exact k9'.out); (· rfl); (· rw [S_1]; rfl); go_frame)
    | (refine wpList_store_row rfl 28 _ _ rfl w4.heap.size R1.toArray rfl rfl 28 ZC.toArray (heap_alloc_new _ _) (by rw [S_1]; rfl) (by rw [S_1, S_z]) O_1 ?_; simp only [Act.put]))
  refine wp_gen (fun W => Cb W w4.heap.size 28 R1 ∧ Cb W g9 28 R1 ∧ Ext w4 W) B4.out ?_
  have g10m : mb < w4.heap.size ∧ w2.heap.size ≤ w4.heap.size := by have := X4.out.size; omega
  generalize w4.heap.size = g10 at *
  clear B4 k9'
  rintro w5 ⟨k10, k9, x5⟩
  have X5 := Lib.hid (X4.out.trans x5)
  have c1 := (P2.out w5 (grown_ofE16 X5.out)).2.1.cell (j := 1) (v := .int .i64 y1) rfl
  have ct := k10.cell HT.out
  have ft := k10.frozen (71 + ii)
  have gf : w5.grownBy (w5.setCell ⟨g10, 71 + ii, none⟩ (.int .u8 (y : Int))) (some g10) := grown_setCell8
  have B5 : Hid (Cb (w5.setCell ⟨g10, 71 + ii, none⟩ (.int .u8 (y : Int))) g10 28 R2 ∧ Cb (w5.setCell ⟨g10, 71 + ii, none⟩ (.int .u8 (y : Int))) g9 28 R1 ∧ Ext w2 (w5.setCell ⟨g10, 71 + ii, none⟩ (.int .u8 (y : Int)))) := by
    refine ⟨?_, (gf.block _ k9.lt (fun z => by have := Option.some.inj z; omega)).trans k9, X5.out.setCell (by simp; omega) _⟩
    have := k10.setAt (j := 71 + ii) (v := .int .u8 (y : Int)) (by omega)
    rwa [HF.out] at this
  have i32 : (ii : Int) < 32 := by omega
  clear k9 k10 X4 X5 x5 gf HF HT L_1 L_2
  go_upto_region 8 with fail
  refine wp_gen (fun W => Cb W g10 28 R2 ∧ Cb W g9 28 R1 ∧ Ext w2 W) B5.out ?_
  clear B5 c1 ct ft fx hand
  rintro w6 ⟨k10, k9, x6⟩
  have B6 : Hid (Cb ((w6.alloc (.cells ZC.toArray 28)).setRow w6.heap.size R1.toArray) w6.heap.size 28 R1 ∧ Cb ((w6.alloc (.cells ZC.toArray 28)).setRow w6.heap.size R1.toArray) g10 28 R2 ∧ Cb ((w6.alloc (.cells ZC.toArray 28)).setRow w6.heap.size R1.toArray) g9 28 R1 ∧ Ext w2 ((w6.alloc (.cells ZC.toArray 28)).setRow w6.heap.size R1.toArray)) := ⟨Cb.set (Cb.new _ _ _), k10.ext (Ext.newRow _ _ _), k9.ext (Ext.newRow _ _ _), x6.trans (Ext.newRow _ _ _)⟩
  have g11m : mb < w6.heap.size ∧ w2.heap.size ≤ w6.heap.size ∧ g9 < w6.heap.size ∧ g10 < w6.heap.size := by have := x6.size; have := k9.lt; have := k10.lt; omega
  replace k9 := Lib.hid k9
  clear k10 x6
  go_upto_region 9 with (first
    | ((with_reducible refine wpList_load_rowW (o := ⟨some 71, _, _, _, _, _⟩) ?_ 28 _ rfl g9 ?_ 28 R1.toArray (0, 0) _ ?_ Tryd.underlying28 ?_ ?_ ?_); (· rfl); (· rfl); (· exact k9.out); (· rfl); (· rw [S_1]; rfl); go_frame)
    | (refine wpList_store_row rfl 28 _ _ rfl w6.heap.size R1.toArray rfl rfl 28 ZC.toArray (heap_alloc_new _ _) (by rw [S_1]; rfl) (by rw [S_1, S_z]) O_1 ?_; simp only [Act.put]))
  refine wp_gen (fun W => Cb W w6.heap.size 28 R1 ∧ Cb W g10 28 R2 ∧ Cb W g9 28 R1 ∧ Ext w2 W) B6.out ?_
  generalize w6.heap.size = g11 at *
  clear B6 k9 hal
  rintro w7 ⟨k11, k10, k9, x7⟩
  have cw := k11.cell H5.out
  have fw := k11.frozen 1
  have gf : w7.grownBy (w7.setCell ⟨g11, 1, none⟩ (.int .i64 4)) (some g11) := grown_setCell8
  have B7 : Hid (Cb (w7.setCell ⟨g11, 1, none⟩ (.int .i64 4)) g11 28 R3 ∧ Cb (w7.setCell ⟨g11, 1, none⟩ (.int .i64 4)) g10 28 R2 ∧ Cb (w7.setCell ⟨g11, 1, none⟩ (.int .i64 4)) g9 28 R1 ∧ Ext w2 (w7.setCell ⟨g11, 1, none⟩ (.int .i64 4))) := by
    refine ⟨?_, (gf.block _ k10.lt (fun z => by have := Option.some.inj z; omega)).trans k10, (gf.block _ k9.lt (fun z => by have := Option.some.inj z; omega)).trans k9, x7.setCell (by simp; omega) _⟩
    have := k11.setCell (o := 1) (v := .int .i64 4)
    rwa [H4.out] at this
  clear k9 k10 k11 x7 gf H4 H5
  go_upto_region 10 with fail
  refine wp_gen (fun W => Cb W g11 28 R3 ∧ Cb W g10 28 R2 ∧ Cb W g9 28 R1 ∧ Ext w2 W) B7.out ?_
  clear B7 cw fw
  rintro w8 ⟨k11, k10, k9, x8⟩
  have s8 := Lib.hid (s2.out.ext x8)
  have P8 : Hid (∀ u, w8.grownBy u (some mb) → w2.grownBy u (some mb) ∧ Cb u g11 28 R3 ∧ Cb u g10 28 R2 ∧ Cb u g9 28 R1 ∧ Cb u rx 42 [.int .i64 (k : Int), .int .i64 y1, .int .i64 (j : Int)] ∧ Ext w u) := fun u y => by
    have g2 := grown_trans' (grown_ofE16 (g := mb) x8) y
    exact ⟨g2, (y.block _ k11.lt (fun z => by have := Option.some.inj z; omega)).trans k11, (y.block _ k10.lt (fun z => by have := Option.some.inj z; omega)).trans k10, (y.block _ k9.lt (fun z => by have := Option.some.inj z; omega)).trans k9, (P2.out u g2).2.1, (P2.out u g2).2.2⟩
  clear k9 k10 k11 x8 s2 P2 GE y_2 O_1 S_z
  obtain ⟨wt, hwt⟩ : ∃ x : Int, x = if 50 < j then 5 else 0 := ⟨_, rfl⟩
  have cj := (P8.out w8 (World.grownBy.refl _ _)).2.2.2.2.1.cell (j := 2) (v := .int .i64 (j : Int)) rfl
  have CJ : Hid (fc ((k : Int) + (j : Int)) = wt) := by
    unfold Hid
    rw [CW.out _ (by omega), hwt]
    by_cases q : 50 < j
    · rw [if_pos (by omega), if_pos q]
    · rw [if_neg (by omega), if_neg q]
  go_upto_if 75 with fail
  clear cj
  go_cut [12] from 76 to 76 (fun v wx => v = .int .i64 wt ∧ wx = w8)
  case first =>
    by_cases q : 50 < j
    · have u : decide ((50 : Int) < (j : Int)) = true := decide_eq_true (by omega)
      obtain rfl : wt = 5 := by rw [hwt, if_pos q]
      clear K1 K2 K3 P8 hwt CJ CW s8
      go_wp2_with fail
      go_meet
      exact ⟨rfl, rfl⟩
    · have u : decide ((50 : Int) < (j : Int)) = false := decide_eq_false (by omega)
      obtain rfl : wt = 0 := by rw [hwt, if_neg q]
      clear K1 K2 K3 P8 hwt CJ CW s8
      go_wp2_with fail
      go_meet
      exact ⟨rfl, rfl⟩
  case rest =>
    obtain ⟨rfl, rfl⟩ := hcut
    have a1 : IntKind.i64.wrap ((k : Int) + (j : Int)) = (k : Int) + (j : Int) := IntWalk.i64_in _ (by omega)
    have Q8 := P8.out wc (World.grownBy.refl _ _)
    have g0 := Q8.2.2.2.2.1.cell (j := 0) (v := .int .i64 (k : Int)) rfl
    have g2 := Q8.2.2.2.2.1.cell (j := 2) (v := .int .i64 (j : Int)) rfl
    have T1 := Lib.hid (K1.out wc [] ((k : Int) + (j : Int)) s8.out (by simp) Q8.1)
    rw [CJ.out] at T1
    have k9 := Lib.hid Q8.2.2.2.1
    clear s8 Q8 CJ hwt
    go_wp2_with (first | ((with_reducible refine wpList_load_rowW (o := ⟨some 79, _, _, _, _, _⟩) ?_ 28 _ rfl g9 ?_ 28 R1.toArray (0, 0) _ ?_ Tryd.underlying28 ?_ ?_ ?_); (· rfl); (· rfl); (· exact k9.out); (· rfl); (· rw [S_1]; rfl); go_frame))
    refine T1.out.mono ?_
    rintro e w9 ⟨rfl, ⟨E1, s9, l9⟩, y9⟩
    have l9' : E1.length ≤ 1 := l9
    have Q9 := P8.out w9 y9
    have g0 := Q9.2.2.2.2.1.cell (j := 0) (v := .int .i64 (k : Int)) rfl
    have T2 := Lib.hid (K2.out w9 E1 s9 (by omega) Q9.1)
    have k10 := Lib.hid Q9.2.2.1
    have ew : (wt == wt) = true := by simp
    replace y9 := Lib.hid y9
    clear T1 K2 k9 s9 l9 g2 a1 Q9
    go_wp2_with (first | ((with_reducible refine wpList_load_rowW (o := ⟨some 91, _, _, _, _, _⟩) ?_ 28 _ rfl g10 ?_ 28 R2.toArray (0, 0) _ ?_ Tryd.underlying28 ?_ ?_ ?_); (· rfl); (· rfl); (· exact k10.out); (· rfl); (· rw [S_2]; rfl); go_frame))
    refine T2.out.mono ?_
    rintro e wa ⟨rfl, ⟨E2, sa, la⟩, ya⟩
    have la' : E2.length ≤ 2 := by have : E2.length ≤ E1.length + 1 := la; omega
    have ya' := Lib.hid (grown_trans' y9.out ya)
    have Qa := P8.out wa ya'.out
    have g0 := Qa.2.2.2.2.1.cell (j := 0) (v := .int .i64 (k : Int)) rfl
    have T3 := Lib.hid (K3.out wa E2 sa (by omega) Qa.1)
    have k11 := Lib.hid Qa.2.1
    clear T2 K3 k10 sa la y9 ya l9' Qa
    go_wp2_with (first | ((with_reducible refine wpList_load_rowW (o := ⟨some 99, _, _, _, _, _⟩) ?_ 28 _ rfl g11 ?_ 28 R3.toArray (0, 0) _ ?_ Tryd.underlying28 ?_ ?_ ?_); (· rfl); (· rfl); (· exact k11.out); (· rfl); (· rw [S_3]; rfl); go_frame))
    refine T3.out.mono ?_
    rintro e wb ⟨rfl, ⟨E3, sb, lb⟩, yb⟩
    have lb' : E3.length ≤ 3 := by have : E3.length ≤ E2.length + 1 := lb; omega
    have yb' := Lib.hid (grown_trans' ya'.out yb)
    have Qb := P8.out wb yb'.out
    have g0 := Qb.2.2.2.2.1.cell (j := 0) (v := .int .i64 (k : Int)) rfl
    have F := Lib.hid Qb.2.2.2.2.2
    have k9 := Lib.hid Qb.2.2.2.1
    have sb' := Lib.hid sb
    have Qb1 := Lib.hid Qb.1
    clear T3 k11 sb lb ya' yb la' Qb
    by_cases hk0 : k = 0
    · subst hk0
      clear K1 P8 k9 sb' Qb1 CW
      go_wp2_with fail
      go_ret
      exact ⟨rfl, F.out⟩
    · have u0 : ((k : Int) == 0) = false := by simp; omega
      have a2 : IntKind.i64.wrap ((k : Int) - 1) = (k : Int) - 1 := IntWalk.i64_in _ (by omega)
      have c5 : fc ((k : Int) - 1) = 5 := by rw [CW.out _ (by omega), if_pos (by omega)]
      have T4 := Lib.hid (K1.out wb E3 ((k : Int) - 1) sb'.out (by omega) Qb1.out)
      rw [c5] at T4
      clear K1 c5 CW sb' Qb1
      go_wp2_with (first | ((with_reducible refine wpList_load_rowW (o := ⟨some 111, _, _, _, _, _⟩) ?_ 28 _ rfl g9 ?_ 28 R1.toArray (0, 0) _ ?_ Tryd.underlying28 ?_ ?_ ?_); (· rfl); (· rfl); (· exact k9.out); (· rfl); (· rw [S_1]; rfl); go_frame))
      refine T4.out.mono ?_
      rintro e wd ⟨rfl, _, yd⟩
      have F2 := Lib.hid (P8.out wd (grown_trans' yb'.out yd)).2.2.2.2.2
      clear T4 P8 yd yb' k9 F
      go_wp2_with fail
      go_ret
      exact ⟨rfl, F2.out⟩
end Go.Proofs.YtmnohmhhmaeljaaDoor
