/-
  KdfDraws: any key of any bytes, and any key's bytes for any purpose, are the document's.
-/
import Derived.Test.YtdiigbknfjceoaaDoorAwake3
import Derived.Test.YtdiigbknfjceoaaDoorRefDraw
import Derived.Test.YtdiigbknfjceoaaDoorRefSpr
namespace Go.Proofs.YtdiigbknfjceoaaDoor
open Go.ChangeShapes Go.WideShapes Go.ChangeAt Go.RowKit Go.Deep

set_option maxRecDepth 100000 in
set_option maxHeartbeats 2000000 in
theorem kdfDraws_main {A : Option Addr} {n c : Nat} {m er : Int} {ks xs vs ms : List UInt8} {w : World} (hk : ks.length = 32) (h : Bs w A n c xs) (ML : ms.length = 32)
    (AW : Hid (∀ W, Ext w W → Calls Tryd.prog 20 #[] W fun e w' => e = .returned (.bool true) ∧ Ext W w'))
    (SPR : Hid (n ≤ 500 → ∀ W, Ext w W → Calls Tryd.prog 21 #[.agg (cellsOf ks).toArray, .string (strL xs), .int .i64 m] W (RetBsE vs er W)))
    (RSPR : Hid (n ≤ 500 → ∀ W, Ext w W → Calls Tryd.prog 22 #[.agg (cellsOf ks).toArray, .string (strL xs), .int .i64 m] W (RetBsE vs er W)))
    (DRAW : Hid (∀ W, Ext w W → Calls Tryd.prog 23 #[.agg (cellsOf ks).toArray, .slice A n c] W fun e w' => e = .returned (.agg (cellsOf ms).toArray) ∧ Ext W w'))
    (RDRAW : Hid (n ≤ 500 → ∀ W, Ext w W → Calls Tryd.prog 24 #[.agg (cellsOf ks).toArray, .slice A n c] W fun e w' => e = .returned (.agg (cellsOf ms).toArray) ∧ Ext W w')) :
    Calls Tryd.prog 5 #[.agg (cellsOf ks).toArray, .slice A n c, .int .i64 m] w fun e w' => e = .returned (.bool true) ∧ Ext w w' := by
  have h1 := h.le
  have h2 := h.cap
  have h' := Lib.hid h
  clear h
  have ky0 : Hid (Ky (w.alloc (Obj.cells (cellsOf ks).toArray 25)) w.heap.size ks) := Ky.boxed w hk
  by_cases q1 : 500 < n
  · have q1' : decide ((500 : Int) < (n : Int)) = true := decide_eq_true (by omega)
    go_enter Tryd.func5, Tryd.ntmps5
    go_wp2_with fail
    refine (AW.out _ ((Ext.refl w).alloc _)).mono ?_
    rintro e w1 ⟨rfl, e1⟩
    go_wp2_with fail
    go_ret
    exact ⟨rfl, ((Ext.refl w).alloc _).trans e1⟩
  · have q1' : decide ((500 : Int) < (n : Int)) = false := decide_eq_false (by omega)
    have SP := Lib.hid (SPR.out (by omega))
    have RSP := Lib.hid (RSPR.out (by omega))
    have RD := Lib.hid (RDRAW.out (by omega))
    clear SPR RSPR RDRAW
    have KS : (cellsOf ks).toArray.size = 32 := by simp [cellsOf_len, hk]
    go_enter Tryd.func5, Tryd.ntmps5
    go_wp2_with fail
    refine (AW.out _ ((Ext.refl w).alloc _)).mono ?_
    rintro e w1 ⟨rfl, e1⟩
    have E1 : Hid (Ext w w1) := ((Ext.refl w).alloc _).trans e1
    have y1 := Lib.hid (ky0.out.ext e1)
    have cv1 := conv_bs (h'.out.ext E1.out)
    clear AW ky0 e1
    go_wp2_with (refine wpList_load_row rfl 25 _ rfl w.heap.size rfl 25 (cellsOf ks).toArray (0, 0) _ y1.out.1 rfl rfl (by rw [KS]; rfl) ?_; simp only [Act.put, List.setIfInBounds_toArray, List.set_cons_zero, List.set_cons_succ])
    refine (SP.out _ E1.out).mono ?_
    rintro e w2 ⟨A2, n2, c2, rfl, b2, e2⟩
    have E2 : Hid (Ext w w2) := E1.out.trans e2
    have y2 := Lib.hid (y1.out.ext e2)
    clear SP E1 y1 e2 cv1
    have cv2 := conv_bs (h'.out.ext E2.out)
    replace b2 := Lib.hid b2
    go_wp2_with (refine wpList_load_row rfl 25 _ rfl w.heap.size rfl 25 (cellsOf ks).toArray (0, 0) _ y2.out.1 rfl rfl (by rw [KS]; rfl) ?_; simp only [Act.put, List.setIfInBounds_toArray, List.set_cons_zero, List.set_cons_succ])
    refine (RSP.out _ E2.out).mono ?_
    rintro e w3 ⟨A3, n3, c3, rfl, b3, e3⟩
    have E3 : Hid (Ext w w3) := E2.out.trans e3
    have y3 := Lib.hid (y2.out.ext e3)
    have cx := Lib.hid (fun s (e : Ext w3 s) => conv_bs (b2.out.ext (e3.trans e)))
    have cy := Lib.hid (fun s (e : Ext w3 s) => conv_bs (b3.ext e))
    clear RSP E2 y2 e3 cv2 b2 b3
    go_wp2_with fail
    refine wp_region_seq (R := Ext) Ext.refl (fun _ _ _ => Ext.trans) [0, 1, 2, 3, 5, 6, 4, 7, 8, 9, 10, 11, 12, 13, 14, 15, 16, 17, 18, 19, 20, 21, 22] [4, 7] [(0, 34, 256), (1, 35, 17179869184), (2, 36, 34359738384), (2, 37, 34359738372), (14, 38, 240518168576), (2, 39, 34359738384), (2, 40, 34359738372), (114, 41, 1683627180032), (146, 42, 2508260900864), (258, 43, 4432406249472), (640, 44, 8796093022208), (1024, 45, 17592186044928), (3072, 46, 52776558133248), (1024, 47, 17592186046464), (9216, 48, 158329674399744), (21504, 49, 369435906932736), (33792, 50, 580542139465728), (66560, 51, 1125899906842624), (131072, 52, 2251799813686272), (131072, 53, 2251799813689344), (917504, 54, 15762598695796736), (1179648, 55, 20266198323167232), (4194303, 7, 36028797018963968)] (by kernel_rfl) (by kernel_rfl) (by kernel_rfl) rfl (by kernel_rfl) (by kernel_rfl) (fun _ _ d _ _ h => by cases d <;> exact h) ?_
    iterate 2 (first | (refine seq_read (fun _ => True) (fun _ _ => trivial) _ (v := ?_) rfl rfl (by rfl) ?_ ?_; rotate_left; (· intro w' hF; go_simp; (try with_reducible rfl)); simp only [Act.put, List.setIfInBounds_toArray, List.set_cons_zero, List.set_cons_succ]) | (refine seq_skip _ rfl rfl (by rfl) ?_; simp only [Act.put, List.setIfInBounds_toArray, List.set_cons_zero, List.set_cons_succ]))
    refine seq_read (fun w' => w'.heap[w.heap.size]? = some (.cells (cellsOf ks).toArray 25 (0, 0))) (fun w' e => (y3.out.ext ((Ext.refl _).drew.trans e)).1) _ (v := .agg (cellsOf ks).toArray) rfl rfl (by rfl) (fun w' hF => exec_load_row rfl rfl hF rfl rfl (by rw [KS]; rfl)) ?_
    simp only [Act.put, List.setIfInBounds_toArray, List.set_cons_zero, List.set_cons_succ]
    iterate 1 (first | (refine seq_read (fun _ => True) (fun _ _ => trivial) _ (v := ?_) rfl rfl (by rfl) ?_ ?_; rotate_left; (· intro w' hF; go_simp; (try with_reducible rfl)); simp only [Act.put, List.setIfInBounds_toArray, List.set_cons_zero, List.set_cons_succ]) | (refine seq_skip _ rfl rfl (by rfl) ?_; simp only [Act.put, List.setIfInBounds_toArray, List.set_cons_zero, List.set_cons_succ]))
    refine seq_read (fun w' => w'.heap[w.heap.size]? = some (.cells (cellsOf ks).toArray 25 (0, 0))) (fun w' e => (y3.out.ext ((Ext.refl _).drew.trans e)).1) _ (v := .agg (cellsOf ks).toArray) rfl rfl (by rfl) (fun w' hF => exec_load_row rfl rfl hF rfl rfl (by rw [KS]; rfl)) ?_
    simp only [Act.put, List.setIfInBounds_toArray, List.set_cons_zero, List.set_cons_succ]
    iterate 1 (first | (refine seq_read (fun _ => True) (fun _ _ => trivial) _ (v := ?_) rfl rfl (by rfl) ?_ ?_; rotate_left; (· intro w' hF; go_simp; (try with_reducible rfl)); simp only [Act.put, List.setIfInBounds_toArray, List.set_cons_zero, List.set_cons_succ]) | (refine seq_skip _ rfl rfl (by rfl) ?_; simp only [Act.put, List.setIfInBounds_toArray, List.set_cons_zero, List.set_cons_succ]))
    refine seq_do _ rfl rfl (by rfl) (fun K hK => ?_)
    go_simp
    refine (DRAW.out _ E3.out.drew).mono ?_
    rintro e w4 ⟨rfl, e4⟩
    refine hK.out _ _ e4 ?_
    clear hK K
    try simp only [Act.put, List.setIfInBounds_toArray, List.set_cons_zero, List.set_cons_succ]
    refine seq_do _ rfl rfl (by rfl) (fun K hK => ?_)
    go_simp
    refine (RD.out _ (E3.out.drew.trans e4)).mono ?_
    rintro e w5 ⟨rfl, e5⟩
    refine hK.out _ _ e5 ?_
    clear hK K
    try simp only [Act.put, List.setIfInBounds_toArray, List.set_cons_zero, List.set_cons_succ]
    refine seq_read (fun _ => True) (fun _ _ => trivial) _ (v := .bool true) rfl rfl (by rfl) (fun w' _ => exec_eql_keyB (decide_eq_true rfl) ML ML rfl rfl rfl) ?_
    simp only [Act.put, List.setIfInBounds_toArray, List.set_cons_zero, List.set_cons_succ]
    repeat (first | (refine seq_read _ (fun w' e => And.intro (cx.out w' ((Ext.refl _).drew.trans (e4.trans (e5.trans e)))) (cy.out w' ((Ext.refl _).drew.trans (e4.trans (e5.trans e))))) _ (v := ?_) rfl rfl (by rfl) ?_ ?_; rotate_left; (· intro w' hF; go_simp; (try with_reducible rfl)); simp only [Act.put, List.setIfInBounds_toArray, List.set_cons_zero, List.set_cons_succ]) | (refine seq_skip _ rfl rfl (by rfl) ?_; simp only [Act.put, List.setIfInBounds_toArray, List.set_cons_zero, List.set_cons_succ]))
    refine seq_done ?_
    have E5 : Hid (Ext w w5) := E3.out.drew.trans (e4.trans e5)
    clear e4 e5
    go_wp2_with fail
    go_ret
    exact ⟨rfl, E5.out⟩

theorem kdfDraws_calls {A : Option Addr} {n c : Nat} {m : Int} {ks xs : List UInt8} {w : World} (hk : ks.length = 32) (h : Bs w A n c xs) {tg : TypeId × Nat × Nat} (hG : Gl w tg) :
    Calls Tryd.prog 5 #[.agg (cellsOf ks).toArray, .slice A n c, .int .i64 m] w fun e w' => e = .returned (.bool true) ∧ Ext w w' := by
  have AW := Lib.hid (fun (W : World) (e : Ext w W) => awake_calls (hG.kept e hG.lt))
  have DRAW := Lib.hid (fun (W : World) (e : Ext w W) => draw_calls hk (h.ext e) (hG.kept e hG.lt))
  have RDRAW := Lib.hid (fun (hn : n ≤ 500) (W : World) (e : Ext w W) => refDraw_calls hk (h.ext e) (show n ≤ 1000000 by omega))
  have hl := h.len
  by_cases hm : m < 0 ∨ 2000 < m
  · exact kdfDraws_main hk h (macL_len ks xs) AW (fun _ W _ => spread_err hm) (fun _ W _ => refSpread_err hm) DRAW RDRAW
  · obtain ⟨k, rfl⟩ := Int.eq_ofNat_of_zero_le (show 0 ≤ m by omega)
    exact kdfDraws_main hk h (macL_len ks xs) AW (fun hn W e => spread_calls hk (by omega) (by omega) (hG.kept e hG.lt)) (fun hn W e => refSpread_calls hk (by omega) (by omega)) DRAW RDRAW
end Go.Proofs.YtdiigbknfjceoaaDoor
