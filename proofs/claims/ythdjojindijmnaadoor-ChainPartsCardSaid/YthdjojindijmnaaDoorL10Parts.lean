/-
  ChainParts: a walk in two parts is the walk.
-/
import Derived.Test.YthdjojindijmnaaDoorAwake10
import Derived.Test.YthdjojindijmnaaDoorMsgL
import Derived.Test.YthdjojindijmnaaDoorMid
import Derived.Test.YthdjojindijmnaaDoorAppK
import Derived.Test.YthdjojindijmnaaDoorSame10
namespace Go.Proofs.YthdjojindijmnaaDoor
open Go.ChangeShapes Go.WideShapes Go.ChangeAt Go.RowKit Go.Deep

theorem chAt_add (ks : List UInt8) (a : Nat) : ∀ b, chAt (chAt ks a) b = chAt ks (a + b)
  | 0 => rfl
  | b + 1 => by
    show keyL (chAt (chAt ks a) b) chnS = keyL (chAt ks (a + b)) chnS
    rw [chAt_add ks a b]
theorem msgL_add (ks : List UInt8) (a : Nat) : ∀ b, msgL ks a ++ msgL (chAt ks a) b = msgL ks (a + b)
  | 0 => by simp [msgL]
  | b + 1 => by rw [msgL_succ, ← List.append_assoc, msgL_add ks a b, ← Nat.add_assoc, msgL_succ, chAt_add]

set_option maxRecDepth 100000 in
set_option maxHeartbeats 1000000 in
theorem chainParts_out {ks : List UInt8} {x y : Int} {w : World} (h : x < 0 ∨ y < 0 ∨ 8 < x ∨ 8 < y) {tg : TypeId × Nat × Nat} (hG : Gl w tg) :
    Calls Tryd.prog 12 #[.agg (cellsOf ks).toArray, .agg #[.int .i64 x, .int .i64 y]] w fun e w' => e = .returned (.bool true) ∧ Ext w w' := by
  have AW := Lib.hid (fun (W : World) (e : Ext w W) => awake10_calls (hG.kept e hG.lt))
  clear hG
  have MW0 : Hid (∀ s : World, Ext ((w.alloc (Obj.cells (cellsOf ks).toArray 23)).alloc (Obj.cells #[.int .i64 x, .int .i64 y] 44)) s → s.cell? ⟨w.heap.size + 1, 0, none⟩ = some (.int .i64 x) ∧ s.cell? ⟨w.heap.size + 1, 1, none⟩ = some (.int .i64 y)) := fun s e => by
    have h2 := (e.block (w.heap.size + 1) (by rw [size_alloc, size_alloc]; omega)).trans (heap_alloc2 w _ _)
    exact ⟨by rw [cell_of_row _ _ _ _ _ (0, 0) h2]; rfl, by rw [cell_of_row _ _ _ _ _ (0, 0) h2]; rfl⟩
  generalize (cellsOf ks).toArray = KS at *
  have T : Hid (x < 0 ∨ y < 0 ∨ 8 < x ∨ 8 < y) := h
  clear h
  by_cases q1 : x < 0
  · have t1 : decide (x < 0) = true := decide_eq_true q1
    clear T
    go_enter Tryd.func12, Tryd.ntmps12
    go_wp2_with fail
    refine (AW.out _ (((Ext.refl w).alloc _).alloc _)).mono ?_
    rintro e w1 ⟨rfl, e1⟩
    obtain ⟨cx, cy⟩ := MW0.out _ e1
    clear MW0
    go_wp2_with fail
    go_ret
    exact ⟨rfl, (((Ext.refl w).alloc _).alloc _).trans e1⟩
  · have t1 : decide (x < 0) = false := decide_eq_false q1
    by_cases q2 : y < 0
    · have t2 : decide (y < 0) = true := decide_eq_true q2
      clear T
      go_enter Tryd.func12, Tryd.ntmps12
      go_wp2_with fail
      refine (AW.out _ (((Ext.refl w).alloc _).alloc _)).mono ?_
      rintro e w1 ⟨rfl, e1⟩
      obtain ⟨cx, cy⟩ := MW0.out _ e1
      clear MW0
      go_wp2_with fail
      go_ret
      exact ⟨rfl, (((Ext.refl w).alloc _).alloc _).trans e1⟩
    · have t2 : decide (y < 0) = false := decide_eq_false q2
      by_cases q3 : 8 < x
      · have t3 : decide (8 < x) = true := decide_eq_true q3
        clear T
        go_enter Tryd.func12, Tryd.ntmps12
        go_wp2_with fail
        refine (AW.out _ (((Ext.refl w).alloc _).alloc _)).mono ?_
        rintro e w1 ⟨rfl, e1⟩
        obtain ⟨cx, cy⟩ := MW0.out _ e1
        clear MW0
        go_wp2_with fail
        go_ret
        exact ⟨rfl, (((Ext.refl w).alloc _).alloc _).trans e1⟩
      · have t3 : decide (8 < x) = false := decide_eq_false q3
        have t4 : decide (8 < y) = true := decide_eq_true (by have := T.out; omega)
        clear T
        go_enter Tryd.func12, Tryd.ntmps12
        go_wp2_with fail
        refine (AW.out _ (((Ext.refl w).alloc _).alloc _)).mono ?_
        rintro e w1 ⟨rfl, e1⟩
        obtain ⟨cx, cy⟩ := MW0.out _ e1
        clear MW0
        go_wp2_with fail
        go_ret
        exact ⟨rfl, (((Ext.refl w).alloc _).alloc _).trans e1⟩

set_option maxRecDepth 100000 in
set_option maxHeartbeats 1500000 in
theorem chainParts_main {ks : List UInt8} {a b : Nat} {w : World} (hk : ks.length = 32) (ha : a ≤ 8) (hb : b ≤ 8) {tg : TypeId × Nat × Nat} (hG : Gl w tg) :
    Calls Tryd.prog 12 #[.agg (cellsOf ks).toArray, .agg #[.int .i64 (a : Int), .int .i64 (b : Int)]] w fun e w' => e = .returned (.bool true) ∧ Ext w w' := by
  have AW := Lib.hid (fun (W : World) (e : Ext w W) => awake10_calls (hG.kept e hG.lt))
  have C1 : Hid (∀ (W : World), Ext w W → Calls Tryd.prog 28 #[.agg (cellsOf ks).toArray, .int .i64 (a : Int)] W (RetWalk (msgL ks a) (chAt ks a) 0 W)) := fun W e => walk_calls hk ha (hG.kept e hG.lt)
  have C2 : Hid (∀ (W : World), Ext w W → Calls Tryd.prog 28 #[.agg (cellsOf (chAt ks a)).toArray, .int .i64 (b : Int)] W (RetWalk (msgL (chAt ks a) b) (chAt ks (a + b)) 0 W)) := fun W e => by
    rw [← chAt_add]
    exact walk_calls (chAt_len hk a) hb (hG.kept e hG.lt)
  have C3 : Hid (a + b ≤ 8 → ∀ (W : World), Ext w W → Calls Tryd.prog 28 #[.agg (cellsOf ks).toArray, .int .i64 ((a : Int) + (b : Int))] W (RetWalk (msgL ks a ++ msgL (chAt ks a) b) (chAt ks (a + b)) 0 W)) := fun h W e => by
    rw [msgL_add]
    exact walk_calls (m := a + b) hk h (hG.kept e hG.lt)
  have C4 : Hid (8 < a + b → ∀ (W : World), Ext w W → Calls Tryd.prog 28 #[.agg (cellsOf ks).toArray, .int .i64 ((a : Int) + (b : Int))] W (RetWalk [] (List.replicate 32 0) 6 W)) := fun h W e => walk_err (.inr (by omega))
  clear hG
  have LX := Lib.hid (msgL_len ks a)
  have LY := Lib.hid (msgL_len (chAt ks a) b)
  have Lc1 := chAt_len hk a
  have Lc2 := chAt_len hk (a + b)
  generalize msgL (chAt ks a) b = ly at *
  generalize msgL ks a = lx at *
  generalize chAt ks (a + b) = c2 at *
  generalize chAt ks a = c1 at *
  have KS : (cellsOf ks).toArray.size = 32 := by simp [cellsOf_len, hk]
  have Sc1 : (cellsOf c1).toArray.size = 32 := by simp [cellsOf_len, Lc1]
  have Sc2 : (cellsOf c2).toArray.size = 32 := by simp [cellsOf_len, Lc2]
  have Oc1 := cellsOf_one c1
  have Oc2 := cellsOf_one c2
  have t1 : decide ((a : Int) < 0) = false := decide_eq_false (by omega)
  have t2 : decide ((b : Int) < 0) = false := decide_eq_false (by omega)
  have t3 : decide ((8 : Int) < (a : Int)) = false := decide_eq_false (by omega)
  have t4 : decide ((8 : Int) < (b : Int)) = false := decide_eq_false (by omega)
  have hal := key_alloc
  have hz0 := zeros32_size
  have hz1 := Lib.hid zeros32_cells
  have Lz0 : (List.replicate 32 (0 : UInt8)).length = 32 := rfl
  generalize List.replicate 32 (0 : UInt8) = z0 at *
  have Sz0 : (cellsOf z0).toArray.size = 32 := by simp [cellsOf_len, Lz0]
  have Oz0 := cellsOf_one z0
  clear hz1
  generalize zeros32 = Z at *
  have P0 : Hid (∀ s : World, Ext ((w.alloc (Obj.cells (cellsOf ks).toArray 23)).alloc (Obj.cells #[.int .i64 (a : Int), .int .i64 (b : Int)] 44)) s → s.cell? ⟨w.heap.size + 1, 0, none⟩ = some (.int .i64 (a : Int)) ∧ s.cell? ⟨w.heap.size + 1, 1, none⟩ = some (.int .i64 (b : Int)) ∧ Ky s w.heap.size ks) := fun s e => by
    have h2 := (e.block (w.heap.size + 1) (by rw [size_alloc, size_alloc]; omega)).trans (heap_alloc2 w _ _)
    exact ⟨by rw [cell_of_row _ _ _ _ _ (0, 0) h2]; rfl, by rw [cell_of_row _ _ _ _ _ (0, 0) h2]; rfl, ⟨(e.block w.heap.size (by rw [size_alloc, size_alloc]; omega)).trans (heap_alloc1 w _ _), hk⟩⟩
  go_enter Tryd.func12, Tryd.ntmps12
  go_wp2_with fail
  refine (AW.out _ (((Ext.refl w).alloc _).alloc _)).mono ?_
  rintro e w0 ⟨rfl, e0⟩
  have E0 : Hid (Ext w w0) := (((Ext.refl w).alloc _).alloc _).trans e0
  replace P0 := Lib.hid (fun s (e : Ext w0 s) => P0.out s (e0.trans e))
  clear AW e0
  have zp : w.heap.size < w0.heap.size := heap_lt (P0.out _ (Ext.refl _)).2.2.1
  obtain ⟨cx, cy, kk⟩ := P0.out _ (Ext.refl _)
  replace kk := Lib.hid kk
  go_wp2_with (refine wpList_exec rfl (exec_load_row rfl rfl kk.out.1 rfl rfl (by rw [KS]; rfl)) ?_; simp only [Act.put, List.setIfInBounds_toArray, List.set_cons_zero, List.set_cons_succ])
  refine (C1.out _ E0.out).mono ?_
  rintro e v ⟨A1, c_1, rfl, kl, hc_1, hd1, e1, -⟩
  have a1 : Hid ((v.alloc (Obj.cells Z 23)).heap[v.heap.size]? = some (.cells Z 23 (0, 0))) := heap_alloc_new _ _
  have e2 : Ext v ((v.alloc (Obj.cells Z 23)).setRow v.heap.size (cellsOf c1).toArray) := below_setRow ((Ext.refl v).alloc _) (Nat.le_refl _) _
  clear kk cx cy
  replace kl := Lib.hid kl
  go_upto_region 5 with (refine wpList_store_row rfl 23 _ _ rfl v.heap.size (cellsOf c1).toArray rfl rfl 23 Z a1.out (by rw [Sc1]; rfl) (by rw [Sc1]; exact hz0) Oc1 ?_; simp only [Act.put, List.setIfInBounds_toArray, List.set_cons_zero, List.set_cons_succ])
  obtain ⟨g1, hg⟩ : ∃ g, g = v.heap.size := ⟨_, rfl⟩
  refine wp_gen (fun W => Ext w0 W ∧ Ky W g1 c1 ∧ Kl W A1 lx.length lx) ⟨e1.trans e2, ⟨by rw [hg]; exact setRow_heap _ _ _ _ _ _ a1.out, Lc1⟩, kl.out.ext e2⟩ ?_
  rw [← hg]
  clear hg a1 e1 e2 kl
  rintro w1 ⟨x, ya, yb⟩
  have E1 : Hid (Ext w w1) := E0.out.trans x
  have P1 : Hid (∀ s : World, Ext w1 s → s.cell? ⟨w.heap.size + 1, 0, none⟩ = some (.int .i64 (a : Int)) ∧ s.cell? ⟨w.heap.size + 1, 1, none⟩ = some (.int .i64 (b : Int)) ∧ Ky s w.heap.size ks ∧ Ky s g1 c1 ∧ Kl s A1 lx.length lx) := fun s e => by
    obtain ⟨p1, p2, p3⟩ := P0.out _ (x.trans e)
    exact ⟨p1, p2, p3, ya.ext e, yb.ext e⟩
  clear x ya yb P0 E0 C1
  obtain ⟨cx, cy, kk, kr⟩ := P1.out _ (Ext.refl _)
  replace kk := Lib.hid kk
  replace kr := Lib.hid kr
  go_wp2_with (refine wpList_exec rfl (exec_load_row rfl rfl kr.out.1.1 rfl rfl (by rw [Sc1]; rfl)) ?_; simp only [Act.put, List.setIfInBounds_toArray, List.set_cons_zero, List.set_cons_succ])
  refine (C2.out _ E1.out).mono ?_
  rintro e v ⟨A2, c_2, rfl, kl, hc_2, hd2, e1, -⟩
  have a1 : Hid ((v.alloc (Obj.cells Z 23)).heap[v.heap.size]? = some (.cells Z 23 (0, 0))) := heap_alloc_new _ _
  have e2 : Ext v ((v.alloc (Obj.cells Z 23)).setRow v.heap.size (cellsOf c2).toArray) := below_setRow ((Ext.refl v).alloc _) (Nat.le_refl _) _
  clear kk kr cx cy
  replace kl := Lib.hid kl
  go_upto_region 6 with (refine wpList_store_row rfl 23 _ _ rfl v.heap.size (cellsOf c2).toArray rfl rfl 23 Z a1.out (by rw [Sc2]; rfl) (by rw [Sc2]; exact hz0) Oc2 ?_; simp only [Act.put, List.setIfInBounds_toArray, List.set_cons_zero, List.set_cons_succ])
  obtain ⟨g2, hg⟩ : ∃ g, g = v.heap.size := ⟨_, rfl⟩
  refine wp_gen (fun W => Ext w1 W ∧ Ky W g2 c2 ∧ Kl W A2 ly.length ly) ⟨e1.trans e2, ⟨by rw [hg]; exact setRow_heap _ _ _ _ _ _ a1.out, Lc2⟩, kl.out.ext e2⟩ ?_
  rw [← hg]
  clear hg a1 e1 e2 kl
  rintro w2 ⟨x, ya, yb⟩
  have E2 : Hid (Ext w w2) := E1.out.trans x
  have P2 : Hid (∀ s : World, Ext w2 s → s.cell? ⟨w.heap.size + 1, 0, none⟩ = some (.int .i64 (a : Int)) ∧ s.cell? ⟨w.heap.size + 1, 1, none⟩ = some (.int .i64 (b : Int)) ∧ Ky s w.heap.size ks ∧ Ky s g1 c1 ∧ Kl s A1 lx.length lx ∧ Ky s g2 c2 ∧ Kl s A2 ly.length ly) := fun s e => by
    obtain ⟨p1, p2, p3, p4, p5⟩ := P1.out _ (x.trans e)
    exact ⟨p1, p2, p3, p4, p5, ya.ext e, yb.ext e⟩
  clear x ya yb P1 E1 C2
  by_cases hs : a + b ≤ 8
  · have C5 := Lib.hid (C3.out hs)
    obtain ⟨lz, hlz⟩ : ∃ lz, lz = lx ++ ly := ⟨_, rfl⟩
    rw [← hlz] at C5
    have LZ : Hid (lz.length ≤ 16) := by
      have h1 := LX.out
      have h2 := LY.out
      rw [hlz, List.length_append]
      show _ ≤ _
      omega
    replace hlz := Lib.hid hlz
    have t5 : decide ((8 : Int) < (a : Int) + (b : Int)) = false := decide_eq_false (by omega)
    clear C3 C4
    obtain ⟨cx, cy, kk, kr⟩ := P2.out _ (Ext.refl _)
    replace kk := Lib.hid kk
    go_wp2_with (refine wpList_exec rfl (exec_load_row rfl rfl kk.out.1 rfl rfl (by rw [KS]; rfl)) ?_; simp only [Act.put, List.setIfInBounds_toArray, List.set_cons_zero, List.set_cons_succ])
    refine (C5.out _ E2.out).mono ?_
    rintro e v ⟨A3, c_3, rfl, kl, hc_3, hd3, e1, -⟩
    have a1 : Hid ((v.alloc (Obj.cells Z 23)).heap[v.heap.size]? = some (.cells Z 23 (0, 0))) := heap_alloc_new _ _
    have e2 : Ext v ((v.alloc (Obj.cells Z 23)).setRow v.heap.size (cellsOf c2).toArray) := below_setRow ((Ext.refl v).alloc _) (Nat.le_refl _) _
    clear kk kr cx cy
    replace kl := Lib.hid kl
    go_upto_region 7 with (refine wpList_store_row rfl 23 _ _ rfl v.heap.size (cellsOf c2).toArray rfl rfl 23 Z a1.out (by rw [Sc2]; rfl) (by rw [Sc2]; exact hz0) Oc2 ?_; simp only [Act.put, List.setIfInBounds_toArray, List.set_cons_zero, List.set_cons_succ])
    obtain ⟨g3, hg⟩ : ∃ g, g = v.heap.size := ⟨_, rfl⟩
    refine wp_gen (fun W => Ext w2 W ∧ Ky W g3 c2 ∧ Kl W A3 lz.length lz) ⟨e1.trans e2, ⟨by rw [hg]; exact setRow_heap _ _ _ _ _ _ a1.out, Lc2⟩, kl.out.ext e2⟩ ?_
    rw [← hg]
    clear hg a1 e1 e2 kl
    rintro w3 ⟨x, ya, yb⟩
    have E3 : Hid (Ext w w3) := E2.out.trans x
    have P3 : Hid (∀ s : World, Ext w3 s → s.cell? ⟨w.heap.size + 1, 0, none⟩ = some (.int .i64 (a : Int)) ∧ s.cell? ⟨w.heap.size + 1, 1, none⟩ = some (.int .i64 (b : Int)) ∧ Ky s w.heap.size ks ∧ Ky s g1 c1 ∧ Kl s A1 lx.length lx ∧ Ky s g2 c2 ∧ Kl s A2 ly.length ly ∧ Ky s g3 c2 ∧ Kl s A3 lz.length lz) := fun s e => by
      obtain ⟨p1, p2, p3, p4, p5, p6, p7⟩ := P2.out _ (x.trans e)
      exact ⟨p1, p2, p3, p4, p5, p6, p7, ya.ext e, yb.ext e⟩
    clear x ya yb P2 E2 C5
    obtain ⟨cx, cy, -, -, K1, -, K2, -, K3⟩ := P3.out _ (Ext.refl _)
    replace K1 := Lib.hid K1
    replace K2 := Lib.hid K2
    replace K3 := Lib.hid K3
    go_upto_region 11 with fail
    have O0 := Lib.hid (OwnK.empty (w := w3) (Nat.le_refl _))
    have K1a := Lib.hid (K1.out.ext ((Ext.refl w3).alloc (Obj.cells #[] 23)))
    clear cx cy
    go_upto_region 12 with (first
      | (refine wpList_slice_none rfl (g := w3.heap.size) rfl rfl ?_; simp only [Act.put, List.setIfInBounds_toArray, List.set_cons_zero, List.set_cons_succ])
      | (at_builtin; (with_reducible refine wpList_append_klP rfl (s := .tmp 85) (x := .tmp 86) (p := lx.length) (l'' := lx) rfl rfl rfl O0.out K1a.out (Nat.zero_add _) rfl (by have := LX.out; omega) (by simp) ?_); intro A5 c5 w5 o5 b5; replace o5 := Lib.hid o5; replace b5 : Hid (Ext w3 w5) := Below.trans ((Ext.refl w3).alloc _) b5; have K2a := Lib.hid (K2.out.ext b5.out); simp only [Act.put, List.setIfInBounds_toArray, List.set_cons_zero, List.set_cons_succ])
      | (at_builtin; (with_reducible refine wpList_append_klP rfl (s := .tmp 87) (x := .tmp 88) (p := lz.length) (l'' := lz) rfl rfl rfl o5.out K2a.out (by rw [hlz.out, List.length_append]) hlz.out.symm (Nat.le_trans LZ.out (by decide)) b5.out.size ?_); intro A6 c6 w6 o6 b6; replace o6 := Lib.hid o6; replace b6 : Hid (Ext w3 w6) := Below.trans b5.out b6; simp only [Act.put, List.setIfInBounds_toArray, List.set_cons_zero, List.set_cons_succ]))
    refine (same10_calls (l := lz) o6.out.kl (K3.out.ext b6.out) (Nat.le_trans LZ.out (by decide))).mono ?_
    rintro e w7 ⟨rfl, e7⟩
    have E7 : Hid (Ext w w7) := E3.out.trans (b6.out.trans e7)
    obtain ⟨-, -, -, -, -, k2, -, k3, -⟩ := P3.out _ (b6.out.trans e7)
    replace k2 := Lib.hid k2
    replace k3 := Lib.hid k3
    clear P3 K1 K2 K3 O0 K1a o5 b5 K2a o6 b6 e7
    go_wp2_with (first
      | (refine wpList_exec rfl (exec_load_row rfl rfl k2.out.1 rfl rfl (by rw [Sc2]; rfl)) ?_; simp only [Act.put, List.setIfInBounds_toArray, List.set_cons_zero, List.set_cons_succ])
      | (refine wpList_exec rfl (exec_load_row rfl rfl k3.out.1 rfl rfl (by rw [Sc2]; rfl)) ?_; simp only [Act.put, List.setIfInBounds_toArray, List.set_cons_zero, List.set_cons_succ])
      | (refine wpList_exec rfl (exec_eql_keyB (xs := c2) (ys := c2) (decide_eq_true rfl) Lc2 Lc2 rfl rfl rfl) ?_; simp only [Act.put, List.setIfInBounds_toArray, List.set_cons_zero, List.set_cons_succ]))
    go_ret
    exact ⟨rfl, E7.out⟩
  · have C5 := Lib.hid (C4.out (by omega))
    have t5 : decide ((8 : Int) < (a : Int) + (b : Int)) = true := decide_eq_true (by omega)
    clear C3 C4
    obtain ⟨cx, cy, kk, kr⟩ := P2.out _ (Ext.refl _)
    replace kk := Lib.hid kk
    go_wp2_with (refine wpList_exec rfl (exec_load_row rfl rfl kk.out.1 rfl rfl (by rw [KS]; rfl)) ?_; simp only [Act.put, List.setIfInBounds_toArray, List.set_cons_zero, List.set_cons_succ])
    refine (C5.out _ E2.out).mono ?_
    rintro e v ⟨A3, c_3, rfl, kl, hc_3, hd3, e1, -⟩
    have a1 : Hid ((v.alloc (Obj.cells Z 23)).heap[v.heap.size]? = some (.cells Z 23 (0, 0))) := heap_alloc_new _ _
    have e2 : Ext v ((v.alloc (Obj.cells Z 23)).setRow v.heap.size (cellsOf z0).toArray) := below_setRow ((Ext.refl v).alloc _) (Nat.le_refl _) _
    clear kk kr cx cy
    replace kl := Lib.hid kl
    go_upto_region 7 with (refine wpList_store_row rfl 23 _ _ rfl v.heap.size (cellsOf z0).toArray rfl rfl 23 Z a1.out (by rw [Sz0]; rfl) (by rw [Sz0]; exact hz0) Oz0 ?_; simp only [Act.put, List.setIfInBounds_toArray, List.set_cons_zero, List.set_cons_succ])
    obtain ⟨g3, hg⟩ : ∃ g, g = v.heap.size := ⟨_, rfl⟩
    refine wp_gen (fun W => Ext w2 W ∧ Ky W g3 z0 ∧ Kl W A3 ([] : List (List UInt8)).length ([] : List (List UInt8))) ⟨e1.trans e2, ⟨by rw [hg]; exact setRow_heap _ _ _ _ _ _ a1.out, Lz0⟩, kl.out.ext e2⟩ ?_
    rw [← hg]
    clear hg a1 e1 e2 kl
    rintro w3 ⟨x, ya, yb⟩
    have E3 : Hid (Ext w w3) := E2.out.trans x
    have P3 := (P2.out _ x)
    obtain ⟨cx, cy, -⟩ := P3
    clear x ya yb P2 C5 E2
    go_wp2_with fail
    go_ret
    exact ⟨rfl, E3.out⟩

theorem chainParts_calls {ks : List UInt8} {x y : Int} {w : World} (hk : ks.length = 32) {tg : TypeId × Nat × Nat} (hG : Gl w tg) :
    Calls Tryd.prog 12 #[.agg (cellsOf ks).toArray, .agg #[.int .i64 x, .int .i64 y]] w fun e w' => e = .returned (.bool true) ∧ Ext w w' := by
  by_cases h : x < 0 ∨ y < 0 ∨ 8 < x ∨ 8 < y
  · exact chainParts_out h hG
  · obtain ⟨a, rfl⟩ := Int.eq_ofNat_of_zero_le (show 0 ≤ x by omega)
    obtain ⟨b, rfl⟩ := Int.eq_ofNat_of_zero_le (show 0 ≤ y by omega)
    exact chainParts_main hk (by omega) (by omega) hG
end Go.Proofs.YthdjojindijmnaaDoor
