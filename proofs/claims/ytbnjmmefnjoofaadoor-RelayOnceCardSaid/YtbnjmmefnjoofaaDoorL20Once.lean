import Derived.Test.YtbnjmmefnjoofaaDoorPkB
/-
  The law RelayOnce.
-/
namespace Go.Proofs.YtbnjmmefnjoofaaDoor
open Go.ChangeShapes Go.WideShapes Go.ChangeAt Go.RowKit Go.Deep Go.Maps
set_option maxRecDepth 100000

theorem bun3_field0 (w : World) : (Instr.field 53 (.agg (bunN 3).toArray) 0).run Tryd.prog w = .ok (.agg (cellsOf (kyL 3 1)).toArray) w := by kernel_rfl
theorem bun3_field1 (w : World) : (Instr.field 53 (.agg (bunN 3).toArray) 1).run Tryd.prog w = .ok (.agg (cellsOf (kyL 3 2)).toArray) w := by kernel_rfl
/-- The one account of the law. -/
def OnI (f : Nat → Option Ac) (K : List (List UInt8)) : Prop := ∃ a, f 3 = some a ∧ a.ib = kyL 3 1 ∧ a.sb = kyL 3 2 ∧ a.K = K
set_option maxHeartbeats 32000000 in
theorem RelayOnce_calls {w : World} {root : List UInt8} (lr : root.length = 32) {A : Option Addr} {n c : Nat} {K : List (List UInt8)} (hK : Cs w 32 A n c (K.map cellsOf)) {more : Int} {tg : TypeId × Nat × Nat} (hG : Gl w tg) : Calls Tryd.prog 4 #[.agg (cellsOf root).toArray, .slice A n c, .int .i64 more] w fun e w' => e = .returned (.bool true) ∧ Ext w w' := by
  have AW' : Hid (∀ W, Ext w W → Calls Tryd.prog 10 #[] W fun e w' => e = .returned (.bool true) ∧ Ext W w') := fun W x => awake20_calls (hG.kept x hG.lt)
  have NW := Lib.hid (fun W : World => rnew_ok (w := W) (n := 5) lr (by omega) (by omega))
  have LK := Lib.hid (fun (W : World) (n : Nat) => link_calls (w := W) (n := (n : Int)))
  have BN := Lib.hid (fun (W : World) (n : Nat) => lbundle_calls (w := W) (n := (n : Int)))
  have BF0 := bun3_field0
  have BF1 := bun3_field1
  have S_r : (cellsOf root).toArray.size = 32 := by simp [cellsOf_len, lr]
  have lK := hK.1.1
  rw [List.length_map] at lK
  have ncap := hK.2.1
  have cm : c ≤ 9223372036854775807 := by have := ncap.2; unfold maxLen at this; omega
  replace hK := Lib.hid hK
  have halB := bundle_alloc
  have L_zB : (bbC (List.replicate 96 0) false).length = 97 := rfl
  generalize bbC (List.replicate 96 0) false = ZB at *
  have S_zB : ZB.toArray.size = 97 := by rw [List.size_toArray, L_zB]
  clear hG
  have RB : Hid ((w.alloc (.cells (cellsOf root).toArray 23)).heap[w.heap.size]? = some (.cells (cellsOf root).toArray 23 (0, 0)) ∧ Ext w (w.alloc (.cells (cellsOf root).toArray 23))) := ⟨heap_alloc_new _ _, (Ext.refl w).alloc _⟩
  go_enter Tryd.func4, Tryd.ntmps4
  go_upto_region 1 with fail
  refine wp_gen (fun W => W.heap[w.heap.size]? = some (.cells (cellsOf root).toArray 23 (0, 0)) ∧ Ext w W) RB.out ?_
  clear RB
  rintro w0 ⟨k0, x0⟩
  have AW := Lib.hid (AW'.out w0 x0)
  clear AW'
  replace k0 := Lib.hid k0
  replace x0 := Lib.hid x0
  go_wp2_with fail
  refine AW.out.mono ?_
  rintro e w1 ⟨rfl, x1⟩
  have k1 := (x1.block _ (heap_lt k0.out)).trans k0.out
  have X1 : Hid (Ext w w1) := x0.out.trans x1
  clear AW k0 x0 x1
  go_wp2_with (first | ((with_reducible refine wpList_load_rowW (o := ⟨some 18, _, _, _, _, _⟩) ?_ 23 _ rfl w.heap.size ?_ 23 (cellsOf root).toArray (0, 0) _ ?_ Tryd.underlying23 ?_ ?_ ?_); (· rfl); (· rfl); (· exact k1); (· rfl); (· rw [S_r]; rfl); go_frame))
  refine (NW.out w1).mono ?_
  rintro e w2 ⟨g, rfl, hg, r2, x2⟩
  have R2 : Hid (RY w.heap.size w2 g root 5 (fun _ => none) 0) := r2.lower X1.out.size
  have X2 : Hid (Ext w w2) := X1.out.trans x2
  clear NW X1 r2 x2 k1 hg
  by_cases hn8 : 8 < n
  · have u1 : decide ((8 : Int) < (n : Int)) = true := decide_eq_true (by omega)
    clear LK BN
    go_wp2_with fail
    go_ret
    exact ⟨rfl, X2.out⟩
  have u1 : decide ((8 : Int) < (n : Int)) = false := decide_eq_false (by omega)
  by_cases hm0 : more < 0
  · have u2 : decide (more < 0) = true := decide_eq_true hm0
    clear LK BN
    go_wp2_with fail
    go_ret
    exact ⟨rfl, X2.out⟩
  have u2 : decide (more < 0) = false := decide_eq_false hm0
  by_cases hm5 : 5 < more
  · have u3 : decide (5 < more) = true := decide_eq_true hm5
    clear LK BN
    go_wp2_with fail
    go_ret
    exact ⟨rfl, X2.out⟩
  have u3 : decide (5 < more) = false := decide_eq_false hm5
  obtain ⟨m, rfl⟩ : ∃ m : Nat, more = (m : Int) := ⟨more.toNat, by omega⟩
  have m5 : m ≤ 5 := by omega
  clear hm0 hm5
  go_wp2_with fail
  refine (LK.out w2 3).mono ?_
  rintro e w3 ⟨rfl, x3⟩
  replace x3 := Lib.hid x3
  go_wp2_with fail
  refine (BN.out w3 3).mono ?_
  rintro e w4 ⟨rfl, x4⟩
  have X4 : Hid (Ext w2 w4) := x3.out.trans x4
  have RG := Lib.hid (register_ok (B := w.heap.size) (K := K) (A := A) (m := n) (c := c) (ho := true) (R2.out.ext X4.out) (Nat.le_trans X2.out.size X4.out.size) (j := 3) rfl (by decide) (by omega) (kyL_len (3 : Int) 77) (kyL_len (3 : Int) 1) (kyL_len (3 : Int) 2) onL_len (hK.out.ext (X2.out.trans X4.out)))
  rw [show bbC (kyL (3 : Int) 1 ++ (kyL (3 : Int) 2 ++ onL)) true = bunN ((3 : Nat) : Int) from rfl, show kyL (3 : Int) 77 = linkL ((3 : Nat) : Int) from rfl] at RG
  have ONI : Hid (∀ A' c' bx tk, OnI (upd (fun _ => none) 3 (some (newA (linkL ((3 : Nat) : Int)) (kyL (3 : Int) 1) (kyL (3 : Int) 2) A' n c' K bx tk))) K) := fun _ _ _ _ => ⟨_, upd_same _ _ _, rfl, rfl, rfl⟩
  have RT : Hid (∀ (W : World) A' c' bx tk (lk bn : List Value), RY w.heap.size W g root 5 (upd (fun _ => none) 3 (some (newA (linkL ((3 : Nat) : Int)) (kyL (3 : Int) 1) (kyL (3 : Int) 2) A' n c' K bx tk))) 0 → Calls Tryd.prog 17 #[.pointer (some ⟨g, 0, none⟩), .int .i64 3, .agg (cellsOf (linkL ((4 : Nat) : Int))).toArray, .agg (bunN ((4 : Nat) : Int)).toArray, .slice none 0 0] W fun e w' => e = .returned (.int .i64 9) ∧ Ext W w') := fun W A' c' bx tk lk bn h => register_twice (j := 3) h (upd_same _ _ _) (by decide) (by decide)
  generalize newA (linkL ((3 : Nat) : Int)) (kyL (3 : Int) 1) (kyL (3 : Int) 2) = NA at *
  generalize linkL ((3 : Nat) : Int) = lk3 at *
  generalize hb3 : bunN ((3 : Nat) : Int) = bn3 at RG ⊢
  clear hb3 x4 x3 R2
  go_wp2_with fail
  refine RG.out.mono ?_
  rintro e w5 ⟨rfl, ⟨A', c', bx, tk, r5⟩, t5⟩
  have X5 : Hid (Ext w w5) := Tm.ext (X2.out.trans X4.out) t5
  replace r5 := Lib.hid r5
  clear RG t5 X4 X2
  go_wp2_with fail
  refine (LK.out w5 4).mono ?_
  rintro e w6 ⟨rfl, x6⟩
  replace x6 := Lib.hid x6
  go_wp2_with fail
  refine (BN.out w6 4).mono ?_
  rintro e w7 ⟨rfl, x7⟩
  have X7 : Hid (Ext w5 w7) := x6.out.trans x7
  have RT7 := Lib.hid (RT.out w7 A' c' bx tk [] [] (r5.out.ext X7.out))
  clear x6 x7 RT LK
  generalize linkL ((4 : Nat) : Int) = lk4 at *
  generalize hb4 : bunN ((4 : Nat) : Int) = bn4 at RT7 ⊢
  clear hb4
  go_wp2_with fail
  refine RT7.out.mono ?_
  rintro e w8 ⟨rfl, x8⟩
  have X8 : Hid (Ext w w8) := X5.out.trans (X7.out.trans x8)
  have R8 : Hid (RY w.heap.size w8 g root 5 (upd (fun _ => none) 3 (some (NA A' n c' K bx tk))) 0) := r5.out.ext (X7.out.trans x8)
  have O8 := Lib.hid (ONI.out A' c' bx tk)
  clear RT7 r5 X5 X7 x8 ONI
  go_wp2_with fail
  go_loopw [12] (fun iv wr => ∃ (i : Nat) (f : Nat → Option Ac), i ≤ n + m ∧ iv = .int .i64 (i : Int) ∧ RY w.heap.size wr g root 5 f 0 ∧ Ext w wr ∧ OnI f (K.drop i)) (fun iv _ => n + m - (intOf iv).toNat)
  case atStart => exact ⟨0, _, Nat.zero_le _, rfl, R8.out, X8.out, O8.out⟩
  case round =>
    obtain ⟨i, f, him, rfl, ry, xr, ⟨a, ha, ia, sa, Ka⟩⟩ := hrel
    clear R8 X8 O8
    have hs : IntKind.i64.wrap ((n : Int) + (m : Int)) = (n : Int) + (m : Int) := IntWalk.i64_in _ (by omega)
    by_cases hlt : i < n + m
    · have v1 : decide ((i : Int) < (n : Int) + (m : Int)) = true := decide_eq_true (by omega)
      have hi1 : IntKind.i64.wrap ((i : Int) + 1) = (i : Int) + 1 := IntWalk.i64_in _ (by omega)
      have FC := Lib.hid (fetch_ok ry ha (by omega) xr.size)
      have ln := ry.lens ha
      have STP : Hid (∀ e w', FetP w.heap.size wr g root 5 f 0 3 a e w' → ∃ (BC : List Value) (f' : Nat → Option Ac), e = .returned (.tuple #[.agg BC.toArray, .int .i64 0]) ∧ RY w.heap.size w' g root 5 f' 0 ∧ Ext w w' ∧ OnI f' (K.drop (i + 1)) ∧ (∀ h : i < n, BC = bbC (kyL 3 1 ++ (kyL 3 2 ++ K[i]'(by omega))) true) ∧ (n ≤ i → BC = bbC (kyL 3 1 ++ (kyL 3 2 ++ List.replicate 32 0)) false)) := fun e w' h => by
        by_cases hin : i < n
        · have hd : K.drop i = K[i]'(by omega) :: K.drop (i + 1) := List.drop_eq_getElem_cons (by omega)
          obtain ⟨h1, ⟨A', n', c', h2⟩, h3⟩ := h.2 _ _ (Ka.trans hd)
          refine ⟨_, _, h1, h2, Tm.ext xr h3, ⟨_, upd_same _ _ _, ia, sa, rfl⟩, fun _ => by rw [ia, sa], fun z => by omega⟩
        · have hd : K.drop i = [] := List.drop_eq_nil_of_le (by omega)
          obtain ⟨h1, h2⟩ := h.1 (Ka.trans hd)
          refine ⟨_, f, h1, ry.ext h2, xr.trans h2, ⟨a, ha, ia, sa, ?_⟩, fun z => by omega, fun _ => ?_⟩
          · rw [Ka, hd, List.drop_eq_nil_of_le (by omega)]
          · unfold Ac.bb; rw [ia, sa]; rfl
      clear ry ha ia sa Ka
      go_wp2_with fail
      refine FC.out.mono ?_
      intro e w4 hF
      obtain ⟨BC, f', rfl, r4, x4, o4, E1, E2⟩ := STP.out e w4 hF
      replace r4 := Lib.hid r4
      replace x4 := Lib.hid x4
      replace o4 := Lib.hid o4
      replace E1 := Lib.hid E1
      replace E2 := Lib.hid E2
      have L_B : BC.length = 97 := by
        by_cases hin : i < n
        · rw [E1.out hin, bbC_len]
          have : (K[i]'(by omega)).length = 32 := by
            have h := hK.out.1.2 (cellsOf (K[i]'(by omega))) (List.mem_map.2 ⟨_, List.getElem_mem _, rfl⟩)
            rwa [cellsOf_len] at h
          simp [kyL_len, this]
        · rw [E2.out (by omega), bbC_len]; simp [kyL_len]
      have S_B : BC.toArray.size = 97 := by rw [List.size_toArray, L_B]
      have O_B : Hid (BC.toArray.all (·.oneCell') = true) := by
        unfold Hid
        by_cases hin : i < n
        · rw [E1.out hin]; exact bbC_one _ _
        · rw [E2.out (by omega)]; exact bbC_one _ _
      have EQ : Hid (∃ xs ys zs b, BC = bbC (xs ++ (ys ++ zs)) b ∧ xs.length = 32 ∧ ys.length = 32 ∧ zs.length = 32) := by
        unfold Hid
        by_cases hin : i < n
        · refine ⟨_, _, _, _, E1.out hin, kyL_len _ _, kyL_len _ _, ?_⟩
          have h := hK.out.1.2 (cellsOf (K[i]'(by omega))) (List.mem_map.2 ⟨_, List.getElem_mem _, rfl⟩)
          rwa [cellsOf_len] at h
        · exact ⟨_, _, _, _, E2.out (by omega), kyL_len _ _, kyL_len _ _, rfl⟩
      have kB : (w4.alloc (.cells ZB.toArray 53)).heap[w4.heap.size]? = some (.cells ZB.toArray 53 (0, 0)) := heap_alloc_new _ _
      have W5 : Hid (Cb ((w4.alloc (.cells ZB.toArray 53)).setRow w4.heap.size BC.toArray) w4.heap.size 53 BC ∧ Ext w4 ((w4.alloc (.cells ZB.toArray 53)).setRow w4.heap.size BC.toArray)) := ⟨setRow_heap _ _ _ _ _ _ kB, Ext.newRow _ _ _⟩
      clear FC STP hF
      go_upto_region 11 with (first
        | (refine wpList_store_row rfl 53 _ _ rfl w4.heap.size BC.toArray rfl rfl 53 ZB.toArray kB (by rw [S_B]; rfl) (by rw [S_B, S_zB]) O_B.out ?_; simp only [Act.put]))
      refine wp_gen (fun W => Cb W w4.heap.size 53 BC ∧ Ext w4 W) W5.out ?_
      obtain ⟨g13, hg13⟩ : ∃ x, x = w4.heap.size := ⟨_, rfl⟩
      rw [← hg13]
      have wg13 : w.heap.size ≤ g13 := by rw [hg13]; exact x4.out.size
      clear W5 kB hg13
      rintro w5 ⟨k13, x5⟩
      replace k13 := Lib.hid k13
      have X5 : Hid (Ext w w5 ∧ RY w.heap.size w5 g root 5 f' 0) := ⟨x4.out.trans x5, r4.out.ext x5⟩
      have BN3 : Hid (∀ W : World, Calls Tryd.prog 19 #[.int .i64 3] W fun e w' => e = .returned (.agg (bunN 3).toArray) ∧ Ext W w') := fun W => BN.out W 3
      have B2 := Lib.hid (bundle2 (kyL_len 3 1) (kyL_len 3 2))
      have lisD : (kyL 3 1 ++ (kyL 3 2 ++ List.replicate 32 0)).length = 96 := by simp [kyL_len]
      have L_D : (bbC (kyL 3 1 ++ (kyL 3 2 ++ List.replicate 32 0)) false).length = 97 := by rw [bbC_len, lisD]
      have O_D : (bbC (kyL 3 1 ++ (kyL 3 2 ++ List.replicate 32 0)) false).toArray.all (·.oneCell') = true := bbC_one _ _
      have S_D : (bbC (kyL 3 1 ++ (kyL 3 2 ++ List.replicate 32 0)) false).toArray.size = 97 := by rw [List.size_toArray, L_D]
      clear x4 r4 x5
      obtain ⟨DC, hDC⟩ : ∃ D, D = bbC (kyL 3 1 ++ (kyL 3 2 ++ List.replicate 32 0)) false := ⟨_, rfl⟩
      rw [← hDC] at B2 L_D O_D S_D E2
      replace hDC := Lib.hid (fun _ : Unit => hDC)
      obtain ⟨b3, hb3⟩ : ∃ b, b = bunN 3 := ⟨_, rfl⟩
      rw [← hb3] at BN3
      have BF0' := BF0
      have BF1' := BF1
      rw [← hb3] at BF0' BF1'
      replace hb3 := Lib.hid (fun _ : Unit => hb3)
      go_wp2_with fail
      refine (BN3.out _).mono ?_
      rintro e w6 ⟨rfl, x6⟩
      replace x6 := Lib.hid x6
      go_wp2_with fail
      refine (BN3.out _).mono ?_
      rintro e w7 ⟨rfl, x7⟩
      have x7' : Hid (Ext w5 w7) := x6.out.trans x7
      have k13b : Hid (Cb w7 g13 53 BC) := k13.out.ext x7'.out
      have X7 : Hid (Ext w w7 ∧ RY w.heap.size w7 g root 5 f' 0) := ⟨X5.out.1.trans x7'.out, X5.out.2.ext x7'.out⟩
      have kD : (w7.alloc (.cells ZB.toArray 53)).heap[w7.heap.size]? = some (.cells ZB.toArray 53 (0, 0)) := heap_alloc_new _ _
      have W8 : Hid (Cb ((w7.alloc (.cells ZB.toArray 53)).setRow w7.heap.size DC.toArray) w7.heap.size 53 DC ∧ Ext w7 ((w7.alloc (.cells ZB.toArray 53)).setRow w7.heap.size DC.toArray)) := ⟨setRow_heap _ _ _ _ _ _ kD, Ext.newRow _ _ _⟩
      clear BN3 x6 x7 x7' X5 k13
      go_upto_region 12 with (first
        | (refine wpList_build_as rfl _ _ rfl DC.toArray (by simp only [List.map_toArray, List.map_cons, List.map_nil]; exact B2.out) ?_; go_frame)
        | (refine wpList_store_row rfl 53 _ _ rfl w7.heap.size DC.toArray rfl rfl 53 ZB.toArray kD (by rw [S_D]; rfl) (by rw [S_D, S_zB]) O_D ?_; simp only [Act.put]))
      refine wp_gen (fun W => Cb W w7.heap.size 53 DC ∧ Ext w7 W) W8.out ?_
      have g13lt : g13 < w7.heap.size := k13b.out.lt
      have wl7 : w.heap.size ≤ w7.heap.size := X7.out.1.size
      obtain ⟨g15, hg15⟩ : ∃ x, x = w7.heap.size := ⟨_, rfl⟩
      rw [← hg15] at g13lt wl7 ⊢
      clear W8 kD hg15
      rintro w8 ⟨k15, x8⟩
      have k13c := k13b.out.ext x8
      have X8 : Hid (Ext w w8 ∧ RY w.heap.size w8 g root 5 f' 0) := ⟨X7.out.1.trans x8, X7.out.2.ext x8⟩
      clear k13b X7 x8 BF0 BF1 BF0' BF1' B2
      by_cases hin : i < n
      · have v2 : decide ((i : Int) < (n : Int)) = true := decide_eq_true (by omega)
        obtain ⟨y, hy⟩ : ∃ y, y = K[i]'(by omega) := ⟨_, rfl⟩
        have hE := E1.out hin
        rw [← hy] at hE
        have ei : (K.map cellsOf).getD i [] = cellsOf y := by
          have iK : i < K.length := by omega
          rw [hy, List.getD_eq_getElem?_getD, List.getElem?_map, List.getElem?_eq_getElem iK]; rfl
        obtain ⟨b, off, hA, hb, hc⟩ := (hK.out.ext X8.out.1).at (j := i) hin
        have hc' : ∀ q v, (cellsOf y)[q]? = some v → w8.cell? ⟨b, off + i * 32 + q, none⟩ = some v := fun q v hv => hc q v (by rw [ei]; exact hv)
        have ly : y.length = 32 := by
          have h := hK.out.1.2 (cellsOf (K[i]'(by omega))) (List.mem_map.2 ⟨_, List.getElem_mem _, rfl⟩)
          rwa [cellsOf_len, ← hy] at h
        have L_y : (cellsOf y).length = 32 := by rw [cellsOf_len, ly]
        have S_y : (cellsOf y).toArray.size = 32 := by rw [List.size_toArray, L_y]
        have O_y := cellsOf_one y
        have lis : (kyL 3 1 ++ (kyL 3 2 ++ y)).length = 96 := by simp [kyL_len, ly]
        have D_c : Cb (w8.setCells g15 64 (cellsOf y)) g15 53 (bbC (kyL 3 1 ++ (kyL 3 2 ++ y)) false) := by
          have e0 : DC = (cellsOf (kyL 3 1) ++ cellsOf (kyL 3 2)) ++ (cellsOf (List.replicate 32 0) ++ [Value.bool false]) := by rw [hDC.out ()]; simp [bbC, cellsOf_app]
          have := k15.put (z := cellsOf y) (off := 64) e0 (by simp [cellsOf_len, kyL_len]) (by rw [L_y, cellsOf_len]; rfl)
          have e : (cellsOf (kyL 3 1) ++ cellsOf (kyL 3 2)) ++ (cellsOf y ++ [Value.bool false]) = bbC (kyL 3 1 ++ (kyL 3 2 ++ y)) false := by simp [bbC, cellsOf_app]
          rwa [e] at this
        have D_d : Cb ((w8.setCells g15 64 (cellsOf y)).setCell ⟨g15, 96, none⟩ (.bool true)) g15 53 BC := by
          have := D_c.setCell (o := 96) (v := .bool true)
          have e : (bbC (kyL 3 1 ++ (kyL 3 2 ++ y)) false).set 96 (.bool true) = bbC (kyL 3 1 ++ (kyL 3 2 ++ y)) true := by
            unfold bbC
            rw [List.set_append_right _ _ (by rw [cellsOf_len, lis]; omega), cellsOf_len, lis]
            rfl
          rwa [e, ← hE] at this
        have c96 := D_c.cell (j := 96) (v := .bool false) (by
          unfold bbC
          rw [List.getElem?_append_right (by rw [cellsOf_len, lis]; omega), cellsOf_len, lis]
          rfl)
        have f96 := D_c.frozen 96
        have gr : w8.grownBy ((w8.setCells g15 64 (cellsOf y)).setCell ⟨g15, 96, none⟩ (.bool true)) (some g15) := grown_setCells.set _ _
        have th : Hid (w8.there g15 64 32) := k15.there (by rw [L_D]; omega)
        have XX : Ext w8 ((w8.setCells g15 64 (cellsOf y)).setCell ⟨g15, 96, none⟩ (.bool true)) → True := fun _ => trivial
        have TX : Tm w.heap.size tagY w8 ((w8.setCells g15 64 (cellsOf y)).setCell ⟨g15, 96, none⟩ (.bool true)) → True := fun _ => trivial
        have R9 : RY w.heap.size ((w8.setCells g15 64 (cellsOf y)).setCell ⟨g15, 96, none⟩ (.bool true)) g root 5 f' 0 := by
          obtain ⟨s, mb, q, own, EE, hh⟩ := X8.out.2
          have KK : ∀ (i : Nat) (cs : Array Value) (t : TypeId), w8.heap[i]? = some (Obj.cells cs t (0, 0)) → t ≠ 53 → ((w8.setCells g15 64 (cellsOf y)).setCell ⟨g15, 96, none⟩ (.bool true)).heap[i]? = some (Obj.cells cs t (0, 0)) := fun i cs t y z => (gr.block i (heap_lt y) (fun q => cells_ne y k15 z (Option.some.inj q))).trans y
          refine ⟨s, mb, q, own, EE, KK _ _ _ hh.cb (by decide), hh.sr.stay ((KK _ _ _ hh.sr.cb (by decide)).trans hh.sr.cb.symm) ((KK _ _ _ hh.sr.kr.1 (by decide)).trans hh.sr.kr.1.symm) (gr.block _ hh.sr.mp.lt fun z => map_ne k15 hh.sr.mp (Option.some.inj z).symm), hh.en, hh.ti, fun l b' hl => (hh.ac l b' hl).keep (fun _ _ z => z) (Nat.le_refl _) fun i cs t y z => KK i cs t y ?_, hh.lo, hh.ow⟩
          rcases z with ⟨_, z⟩ | rfl | rfl
          · intro q
            subst q
            exact absurd z (by decide)
          · decide
          · decide
        have X9 : Ext w ((w8.setCells g15 64 (cellsOf y)).setCell ⟨g15, 96, none⟩ (.bool true)) := Below.trans X8.out.1 ⟨gr.os, gr.tape, gr.output, gr.size, fun i hi => gr.block i (Nat.lt_of_lt_of_le hi X8.out.1.size) (fun z => by have := Option.some.inj z; omega)⟩
        have k13d : Cb ((w8.setCells g15 64 (cellsOf y)).setCell ⟨g15, 96, none⟩ (.bool true)) g13 53 BC := (gr.block _ k13c.lt (fun z => by have := Option.some.inj z; omega)).trans k13c
        have G9 : Hid (Cb ((w8.setCells g15 64 (cellsOf y)).setCell ⟨g15, 96, none⟩ (.bool true)) g15 53 BC ∧ Cb ((w8.setCells g15 64 (cellsOf y)).setCell ⟨g15, 96, none⟩ (.bool true)) g13 53 BC ∧ Ext w ((w8.setCells g15 64 (cellsOf y)).setCell ⟨g15, 96, none⟩ (.bool true)) ∧ RY w.heap.size ((w8.setCells g15 64 (cellsOf y)).setCell ⟨g15, 96, none⟩ (.bool true)) g root 5 f' 0) := ⟨D_d, k13d, X9, R9⟩
        subst hA
        have iin : (i : Int) < (n : Int) := by omega
        replace hE := Lib.hid (fun _ : Unit => hE)
        replace hy := Lib.hid (fun _ : Unit => hy)
        clear D_d gr XX TX R9 X9 k13d k13c X8 hc ly lis D_c hb ei
        generalize cellsOf y = YC at *
        go_upto_region 15 with (first
          | ((with_reducible refine wpList_load_mid (o := ⟨some 76, _, _, _, _, _⟩) (ty := 23) (g := b) (off := off + i * 32) (ys := YC) ?_ rfl ?_ ?_ Tryd.underlying23 ?_ ?_ ?_); (· rfl); (· rfl); (· exact hc'); (· rfl); (· rw [L_y]; rfl); go_frame)
          | ((with_reducible refine wpList_store_mid (op := ⟨none, .store 23 (.tmp 77) (.tmp 76), _, _, _, _⟩) ?_ 23 _ _ rfl g15 64 YC.toArray ?_ ?_ ?_ ?_ ?_ ?_); (· rfl); (· rfl); (· rfl); (· rw [S_y]; exact th.out); (· rw [S_y]; rfl); (· exact O_y); go_frame))
        refine wp_gen (fun W => Cb W g15 53 BC ∧ Cb W g13 53 BC ∧ Ext w W ∧ RY w.heap.size W g root 5 f' 0) G9.out ?_
        clear G9 th c96 f96 hc' k15
        rintro w9 ⟨k15, k13, x9, r9⟩
        replace x9 := Lib.hid x9
        replace r9 := Lib.hid r9
        go_wp2_with (first
          | ((with_reducible refine wpList_load_rowW (o := ⟨some 82, _, _, _, _, _⟩) ?_ 53 _ rfl g13 ?_ 53 BC.toArray (0, 0) _ ?_ Tryd.underlying53 ?_ ?_ ?_); (· rfl); (· rfl); (· exact k13); (· rfl); (· rw [S_B]; rfl); go_frame)
          | ((with_reducible refine wpList_load_rowW (o := ⟨some 83, _, _, _, _, _⟩) ?_ 53 _ rfl g15 ?_ 53 BC.toArray (0, 0) _ ?_ Tryd.underlying53 ?_ ?_ ?_); (· rfl); (· rfl); (· exact k15); (· rfl); (· rw [S_B]; rfl); go_frame)
          | (refine wpList_exec rfl (exec_neq_bun EQ.out rfl rfl rfl) ?_; go_frame))
        go_round
        case rel => exact ⟨i + 1, f', by omega, by go_num, r9.out, x9.out, o4.out⟩
        case measure => simp [intOf]; omega
      · have v2 : decide ((i : Int) < (n : Int)) = false := decide_eq_false (by omega)
        have hE := E2.out (by omega)
        subst hE
        have k13 := k13c
        clear k13c
        go_wp2_with (first
          | ((with_reducible refine wpList_load_rowW (o := ⟨some 82, _, _, _, _, _⟩) ?_ 53 _ rfl g13 ?_ 53 BC.toArray (0, 0) _ ?_ Tryd.underlying53 ?_ ?_ ?_); (· rfl); (· rfl); (· exact k13); (· rfl); (· rw [S_B]; rfl); go_frame)
          | ((with_reducible refine wpList_load_rowW (o := ⟨some 83, _, _, _, _, _⟩) ?_ 53 _ rfl g15 ?_ 53 BC.toArray (0, 0) _ ?_ Tryd.underlying53 ?_ ?_ ?_); (· rfl); (· rfl); (· exact k15); (· rfl); (· rw [S_B]; rfl); go_frame)
          | (refine wpList_exec rfl (exec_neq_bun EQ.out rfl rfl rfl) ?_; go_frame))
        go_round
        case rel => exact ⟨i + 1, f', by omega, by go_num, X8.out.2, X8.out.1, o4.out⟩
        case measure => simp [intOf]; omega
    · obtain rfl : i = n + m := by omega
      have v1 : decide (((n + m : Nat) : Int) < (n : Int) + (m : Int)) = false := decide_eq_false (by omega)
      clear ry ha ia sa Ka
      replace xr := Lib.hid xr
      go_wp2_with fail
      go_ret
      exact ⟨rfl, xr.out⟩
end Go.Proofs.YtbnjmmefnjoofaaDoor
