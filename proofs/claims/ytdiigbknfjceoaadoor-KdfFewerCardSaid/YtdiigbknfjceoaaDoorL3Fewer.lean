/-
  KdfFewer: fewer bytes are a beginning of more.
-/
import Derived.Test.YtdiigbknfjceoaaDoorL3First
import Derived.Test.YtdiigbknfjceoaaDoorCut2
namespace Go.Proofs.YtdiigbknfjceoaaDoor
open Go.ChangeShapes Go.WideShapes Go.ChangeAt Go.RowKit Go.Deep

/-- What Spread tells, whatever the number. -/
def SpRet (ks ps : List UInt8) (m : Int) (w : World) (e : Ending) (w' : World) : Prop :=
  ∃ A n c er, e = .returned (.tuple #[.slice A n c, .int .i64 er]) ∧ Ext w w' ∧ (((m < 0 ∨ 2000 < m) ∧ er = 1) ∨ (0 ≤ m ∧ m ≤ 2000 ∧ er = 0 ∧ (n : Int) = m ∧ Bs w' A n c (spreadL ks ps n)))
theorem spread_any {ks ps : List UInt8} {m : Int} {w : World} (hk : ks.length = 32) (h1 : ps.length ≤ 1000000) {tg : TypeId × Nat × Nat} (hG : Gl w tg) :
    Calls Tryd.prog 21 #[.agg (cellsOf ks).toArray, .string (strL ps), .int .i64 m] w (SpRet ks ps m w) := by
  by_cases h : m < 0 ∨ 2000 < m
  · refine (spread_err h).mono ?_
    rintro e w' ⟨A, n, c, rfl, _, e1⟩
    exact ⟨A, n, c, 1, rfl, e1, .inl ⟨h, rfl⟩⟩
  · obtain ⟨k, rfl⟩ := Int.eq_ofNat_of_zero_le (show 0 ≤ m by omega)
    refine (spread_calls hk h1 (by omega) hG).mono ?_
    rintro e w' ⟨A, n, c, rfl, b, e1⟩
    obtain rfl : n = k := by rw [← b.len, spreadL_len]
    exact ⟨A, n, c, 0, rfl, e1, .inr ⟨by omega, by omega, rfl, rfl, b⟩⟩

set_option maxRecDepth 100000 in
set_option maxHeartbeats 1000000 in
theorem kdfFewer_out {ks ps : List UInt8} {x y : Int} {w : World} (hk : ks.length = 32) (hq : 300 < ps.length) {tg : TypeId × Nat × Nat} (hG : Gl w tg) :
    Calls Tryd.prog 7 #[.agg (cellsOf ks).toArray, .string (strL ps), .agg #[.int .i64 x, .int .i64 y]] w fun e w' => e = .returned (.bool true) ∧ Ext w w' := by
  have AW := Lib.hid (fun (W : World) (e : Ext w W) => awake_calls (hG.kept e hG.lt))
  have q1' : decide ((300 : Int) < ((strL ps).size : Int)) = true := decide_eq_true (by rw [strL_size]; omega)
  clear hG hq
  generalize strL ps = sA at *
  go_enter Tryd.func7, Tryd.ntmps7
  go_wp2_with fail
  refine (AW.out _ (((Ext.refl w).alloc _).alloc _)).mono ?_
  rintro e w1 ⟨rfl, e1⟩
  go_wp2_with fail
  go_ret
  exact ⟨rfl, (((Ext.refl w).alloc _).alloc _).trans e1⟩

set_option maxRecDepth 100000 in
set_option maxHeartbeats 2000000 in
theorem kdfFewer_main {ks ps : List UInt8} {x y : Int} {w : World} (hk : ks.length = 32) (hq : ps.length ≤ 300) {tg : TypeId × Nat × Nat} (hG : Gl w tg) :
    Calls Tryd.prog 7 #[.agg (cellsOf ks).toArray, .string (strL ps), .agg #[.int .i64 x, .int .i64 y]] w fun e w' => e = .returned (.bool true) ∧ Ext w w' := by
  have AW := Lib.hid (fun (W : World) (e : Ext w W) => awake_calls (hG.kept e hG.lt))
  have SPR := Lib.hid (fun (W : World) (m : Int) (e : Ext w W) => spread_any (m := m) hk (show ps.length ≤ 1000000 by omega) (hG.kept e hG.lt))
  have q1' : decide ((300 : Int) < ((strL ps).size : Int)) = false := decide_eq_false (by rw [strL_size]; omega)
  have KS : (cellsOf ks).toArray.size = 32 := by simp [cellsOf_len, hk]
  clear hG hq
  have MW0 : Hid (∀ s : World, Ext ((w.alloc (Obj.cells (cellsOf ks).toArray 25)).alloc (Obj.cells #[.int .i64 x, .int .i64 y] 41)) s → Ky s w.heap.size ks ∧ s.cell? ⟨w.heap.size + 1, 0, none⟩ = some (.int .i64 x) ∧ s.cell? ⟨w.heap.size + 1, 1, none⟩ = some (.int .i64 y)) := fun s e => by
    have h2 := (e.block (w.heap.size + 1) (by rw [size_alloc, size_alloc]; omega)).trans (heap_alloc2 w _ _)
    exact ⟨⟨(e.block w.heap.size (by rw [size_alloc, size_alloc]; omega)).trans (heap_alloc1 w _ _), hk⟩, by rw [cell_of_row _ _ _ _ _ (0, 0) h2]; rfl, by rw [cell_of_row _ _ _ _ _ (0, 0) h2]; rfl⟩
  generalize strL ps = sA at *
  go_enter Tryd.func7, Tryd.ntmps7
  go_wp2_with fail
  refine (AW.out _ (((Ext.refl w).alloc _).alloc _)).mono ?_
  rintro e w1 ⟨rfl, e1⟩
  have E1 : Hid (Ext w w1) := (((Ext.refl w).alloc _).alloc _).trans e1
  have M1 := Lib.hid (fun s (e : Ext w1 s) => MW0.out s (e1.trans e))
  clear AW e1 MW0
  obtain ⟨kk, cx, cy⟩ := M1.out _ (Ext.refl w1)
  replace kk := Lib.hid kk
  go_wp2_with (refine wpList_load_row rfl 25 _ rfl w.heap.size rfl 25 (cellsOf ks).toArray (0, 0) _ kk.out.1 rfl rfl (by rw [KS]; rfl) ?_; simp only [Act.put, List.setIfInBounds_toArray, List.set_cons_zero, List.set_cons_succ])
  refine (SPR.out _ x E1.out).mono ?_
  rintro e w2 ⟨A2, n2, c2, er2, rfl, e2, R2⟩
  have E2 : Hid (Ext w w2) := E1.out.trans e2
  have M2 := Lib.hid (fun s (e : Ext w2 s) => M1.out s (e2.trans e))
  clear E1 M1 e2 kk cx cy
  obtain ⟨kk, cx, cy⟩ := M2.out _ (Ext.refl w2)
  replace kk := Lib.hid kk
  replace R2 := Lib.hid R2
  go_wp2_with (refine wpList_load_row rfl 25 _ rfl w.heap.size rfl 25 (cellsOf ks).toArray (0, 0) _ kk.out.1 rfl rfl (by rw [KS]; rfl) ?_; simp only [Act.put, List.setIfInBounds_toArray, List.set_cons_zero, List.set_cons_succ])
  refine (SPR.out _ y E2.out).mono ?_
  rintro e w3 ⟨A3, n3, c3, er3, rfl, e3, R3⟩
  have E3 : Hid (Ext w w3) := E2.out.trans e3
  have M3 := Lib.hid (fun s (e : Ext w3 s) => M2.out s (e3.trans e))
  clear E2 M2 kk cx cy SPR
  obtain ⟨kk, cx, cy⟩ := M3.out _ (Ext.refl w3)
  clear kk
  rcases R2.out with ⟨hx, rfl⟩ | ⟨x0, x1, rfl, hx, b2⟩
  · -- the first number may not be
    clear R2 R3 e3 M3
    by_cases hx0 : x < 0
    · have dx : decide (x < 0) = true := decide_eq_true hx0
      clear hx
      go_wp2_with fail
      go_ret
      exact ⟨rfl, E3.out⟩
    · have dx : decide (x < 0) = false := decide_eq_false hx0
      have dx2 : decide (2000 < x) = true := decide_eq_true (by omega)
      clear hx
      by_cases hy0 : y < 0
      · have dy : decide (y < 0) = true := decide_eq_true hy0
        go_wp2_with fail
        go_ret
        exact ⟨rfl, E3.out⟩
      · have dy : decide (y < 0) = false := decide_eq_false hy0
        go_wp2_with fail
        go_ret
        exact ⟨rfl, E3.out⟩
  · rcases R3 with ⟨hy, rfl⟩ | ⟨y0, y1, rfl, hy, b3⟩
    · have dx : decide (x < 0) = false := decide_eq_false (by omega)
      have dx2 : decide (2000 < x) = false := decide_eq_false (by omega)
      clear R2 e3 M3 hx b2
      by_cases hy0 : y < 0
      · have dy : decide (y < 0) = true := decide_eq_true hy0
        clear hy
        go_wp2_with fail
        go_ret
        exact ⟨rfl, E3.out⟩
      · have dy : decide (y < 0) = false := decide_eq_false hy0
        have dy2 : decide (2000 < y) = true := decide_eq_true (by omega)
        clear hy
        go_wp2_with fail
        go_ret
        exact ⟨rfl, E3.out⟩
    · clear R2
      subst hx hy
      replace b2 := Lib.hid (b2.ext e3)
      replace b3 := Lib.hid b3
      have l2 := b2.out.le
      have l3 := b3.out.le
      have q2 := b2.out.cap
      have q3 := b3.out.cap
      by_cases hlt : n3 < n2
      · have k2 : n3 ≤ n2 := by omega
        have k3 : n3 ≤ n3 := by omega
        have t2 := b2.out.take k2
        have t3 := b3.out.take k3
        rw [spreadL_take _ _ k2] at t2
        rw [spreadL_take _ _ k3] at t3
        have cv2 := Lib.hid (fun s (e : Ext w3 s) => conv_bs (t2.ext e))
        have cv3 := Lib.hid (fun s (e : Ext w3 s) => conv_bs (t3.ext e))
        clear b2 b3 e3 t2 t3
        go_wp2_with fail
        refine wp_region_seq (R := Ext) Ext.refl (fun _ _ _ => Ext.trans) [0, 1, 2, 3, 4, 5, 6, 7, 8, 9, 10, 11, 12, 13, 14, 15, 16, 17, 18, 19, 20, 21, 22, 23, 24, 25, 26] [] [(0, 67, 256), (1, 68, 147573952589676412928), (2, 69, 295147905179352826368), (6, 70, 885443715538058477568), (2, 71, 295147905179352825920), (18, 72, 2656331146614175432704), (42, 73, 6198106008766409342976), (66, 74, 9739880870918643253248), (130, 75, 18889465931478580854784), (256, 76, 37778931862957161711616), (768, 77, 113336795588871485128704), (256, 78, 37778931862957161709632), (2304, 79, 340010386766614455386112), (5376, 80, 793357569122100395900928), (8448, 81, 1246704751477586336415744), (16640, 82, 2417851639229258349412352), (32768, 83, 4835703278458516698825216), (32768, 84, 4835703278458516698832896), (229376, 85, 33849922949209616891772928), (294912, 86, 43521329506126650289422336), (32768, 87, 4835703278458516698826752), (32768, 88, 4835703278458516698832896), (3178496, 89, 469063218010476119785996288), (4227072, 90, 623805722921148654148386816), (8945664, 91, 1320146995019175058779144192), (16809984, 92, 2480715781849219066497073152), (67108863, 7, 4951760157141521099596496896)] (by kernel_rfl) (by kernel_rfl) (by kernel_rfl) rfl (by kernel_rfl) (by kernel_rfl) (fun _ _ d _ _ h => by cases d <;> exact h) ?_
        repeat (first | (refine seq_read _ (fun w' e => And.intro ((M3.out w' ((Ext.refl _).drew.trans e)).2.1) (And.intro ((M3.out w' ((Ext.refl _).drew.trans e)).2.2) (And.intro (cv2.out w' ((Ext.refl _).drew.trans e)) (cv3.out w' ((Ext.refl _).drew.trans e))))) _ (v := ?_) rfl rfl (by rfl) ?_ ?_; rotate_left; (· intro w' hF; go_simp; (try with_reducible rfl)); simp only [Act.put, List.setIfInBounds_toArray, List.set_cons_zero, List.set_cons_succ]) | (refine seq_skip _ rfl rfl (by rfl) ?_; simp only [Act.put, List.setIfInBounds_toArray, List.set_cons_zero, List.set_cons_succ]))
        refine seq_read (fun _ => True) (fun _ _ => trivial) _ (v := .slice A2 n3 c2) rfl rfl (by rfl) (fun w' _ => exec_to rfl rfl rfl (by omega)) ?_
        simp only [Act.put, List.setIfInBounds_toArray, List.set_cons_zero, List.set_cons_succ]
        repeat (first | (refine seq_read _ (fun w' e => And.intro ((M3.out w' ((Ext.refl _).drew.trans e)).2.1) (And.intro ((M3.out w' ((Ext.refl _).drew.trans e)).2.2) (And.intro (cv2.out w' ((Ext.refl _).drew.trans e)) (cv3.out w' ((Ext.refl _).drew.trans e))))) _ (v := ?_) rfl rfl (by rfl) ?_ ?_; rotate_left; (· intro w' hF; go_simp; (try with_reducible rfl)); simp only [Act.put, List.setIfInBounds_toArray, List.set_cons_zero, List.set_cons_succ]) | (refine seq_skip _ rfl rfl (by rfl) ?_; simp only [Act.put, List.setIfInBounds_toArray, List.set_cons_zero, List.set_cons_succ]))
        repeat (first | (refine seq_read _ (fun w' e => And.intro ((M3.out w' ((Ext.refl _).drew.trans e)).2.1) (And.intro ((M3.out w' ((Ext.refl _).drew.trans e)).2.2) (And.intro (cv2.out w' ((Ext.refl _).drew.trans e)) (cv3.out w' ((Ext.refl _).drew.trans e))))) _ (v := ?_) rfl rfl (by rfl) ?_ ?_; rotate_left; (· intro w' hF; go_simp; (try with_reducible rfl)); simp only [Act.put, List.setIfInBounds_toArray, List.set_cons_zero, List.set_cons_succ]) | (refine seq_skip _ rfl rfl (by rfl) ?_; simp only [Act.put, List.setIfInBounds_toArray, List.set_cons_zero, List.set_cons_succ]))
        refine seq_done ?_
        go_wp2_with fail
        go_ret
        exact ⟨rfl, E3.out.drew⟩
      · have k2 : n2 ≤ n2 := by omega
        have k3 : n2 ≤ n3 := by omega
        have t2 := b2.out.take k2
        have t3 := b3.out.take k3
        rw [spreadL_take _ _ k2] at t2
        rw [spreadL_take _ _ k3] at t3
        have cv2 := Lib.hid (fun s (e : Ext w3 s) => conv_bs (t2.ext e))
        have cv3 := Lib.hid (fun s (e : Ext w3 s) => conv_bs (t3.ext e))
        clear b2 b3 e3 t2 t3
        go_wp2_with fail
        refine wp_region_seq (R := Ext) Ext.refl (fun _ _ _ => Ext.trans) [0, 1, 2, 3, 4, 5, 6, 7, 8, 9, 10, 11, 12, 13, 14, 15, 16, 17, 18, 19, 20, 21, 22, 23, 24, 25, 26] [] [(0, 67, 256), (1, 68, 147573952589676412928), (2, 69, 295147905179352826368), (6, 70, 885443715538058477568), (2, 71, 295147905179352825920), (18, 72, 2656331146614175432704), (42, 73, 6198106008766409342976), (66, 74, 9739880870918643253248), (130, 75, 18889465931478580854784), (256, 76, 37778931862957161711616), (768, 77, 113336795588871485128704), (256, 78, 37778931862957161709632), (2304, 79, 340010386766614455386112), (5376, 80, 793357569122100395900928), (8448, 81, 1246704751477586336415744), (16640, 82, 2417851639229258349412352), (32768, 83, 4835703278458516698825216), (32768, 84, 4835703278458516698832896), (229376, 85, 33849922949209616891772928), (294912, 86, 43521329506126650289422336), (32768, 87, 4835703278458516698826752), (32768, 88, 4835703278458516698832896), (3178496, 89, 469063218010476119785996288), (4227072, 90, 623805722921148654148386816), (8945664, 91, 1320146995019175058779144192), (16809984, 92, 2480715781849219066497073152), (67108863, 7, 4951760157141521099596496896)] (by kernel_rfl) (by kernel_rfl) (by kernel_rfl) rfl (by kernel_rfl) (by kernel_rfl) (fun _ _ d _ _ h => by cases d <;> exact h) ?_
        repeat (first | (refine seq_read _ (fun w' e => And.intro ((M3.out w' ((Ext.refl _).drew.trans e)).2.1) (And.intro ((M3.out w' ((Ext.refl _).drew.trans e)).2.2) (And.intro (cv2.out w' ((Ext.refl _).drew.trans e)) (cv3.out w' ((Ext.refl _).drew.trans e))))) _ (v := ?_) rfl rfl (by rfl) ?_ ?_; rotate_left; (· intro w' hF; go_simp; (try with_reducible rfl)); simp only [Act.put, List.setIfInBounds_toArray, List.set_cons_zero, List.set_cons_succ]) | (refine seq_skip _ rfl rfl (by rfl) ?_; simp only [Act.put, List.setIfInBounds_toArray, List.set_cons_zero, List.set_cons_succ]))
        repeat (first | (refine seq_read _ (fun w' e => And.intro ((M3.out w' ((Ext.refl _).drew.trans e)).2.1) (And.intro ((M3.out w' ((Ext.refl _).drew.trans e)).2.2) (And.intro (cv2.out w' ((Ext.refl _).drew.trans e)) (cv3.out w' ((Ext.refl _).drew.trans e))))) _ (v := ?_) rfl rfl (by rfl) ?_ ?_; rotate_left; (· intro w' hF; go_simp; (try with_reducible rfl)); simp only [Act.put, List.setIfInBounds_toArray, List.set_cons_zero, List.set_cons_succ]) | (refine seq_skip _ rfl rfl (by rfl) ?_; simp only [Act.put, List.setIfInBounds_toArray, List.set_cons_zero, List.set_cons_succ]))
        refine seq_read (fun _ => True) (fun _ _ => trivial) _ (v := .slice A3 n2 c3) rfl rfl (by rfl) (fun w' _ => exec_to rfl rfl rfl (by omega)) ?_
        simp only [Act.put, List.setIfInBounds_toArray, List.set_cons_zero, List.set_cons_succ]
        repeat (first | (refine seq_read _ (fun w' e => And.intro ((M3.out w' ((Ext.refl _).drew.trans e)).2.1) (And.intro ((M3.out w' ((Ext.refl _).drew.trans e)).2.2) (And.intro (cv2.out w' ((Ext.refl _).drew.trans e)) (cv3.out w' ((Ext.refl _).drew.trans e))))) _ (v := ?_) rfl rfl (by rfl) ?_ ?_; rotate_left; (· intro w' hF; go_simp; (try with_reducible rfl)); simp only [Act.put, List.setIfInBounds_toArray, List.set_cons_zero, List.set_cons_succ]) | (refine seq_skip _ rfl rfl (by rfl) ?_; simp only [Act.put, List.setIfInBounds_toArray, List.set_cons_zero, List.set_cons_succ]))
        refine seq_done ?_
        go_wp2_with fail
        go_ret
        exact ⟨rfl, E3.out.drew⟩

theorem kdfFewer_calls {ks : List UInt8} {s : ByteArray} {x y : Int} {w : World} (hk : ks.length = 32) {tg : TypeId × Nat × Nat} (hG : Gl w tg) :
    Calls Tryd.prog 7 #[.agg (cellsOf ks).toArray, .string s, .agg #[.int .i64 x, .int .i64 y]] w fun e w' => e = .returned (.bool true) ∧ Ext w w' := by
  rw [← strL_eta s]
  by_cases hq : 300 < s.data.toList.length
  · exact kdfFewer_out hk hq hG
  · exact kdfFewer_main hk (by omega) hG
end Go.Proofs.YtdiigbknfjceoaaDoor
