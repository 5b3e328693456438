/-
  The law HeadReads.
-/
import Derived.Test.YtojgmgghlkpfoaaHead12
namespace Go.Proofs.Ytojgmgghlkpfoaa
open Go.ChangeShapes Go.WideShapes Go.ChangeAt Go.RowKit Go.Deep
set_option maxRecDepth 100000

theorem rhC_is (xs : List UInt8) : ∃ pk p n, rhC xs = hdC pk p n ∧ pk.length = 32 := by
  unfold rhC
  split
  · rename_i h
    refine ⟨_, _, _, rfl, ?_⟩
    unfold reH at h
    split at h
    · cases h
    · rw [List.length_take]; omega
  · exact ⟨_, _, _, rfl, rfl⟩
theorem sameH_refl (pk : List UInt8) (p n : Int) : sameH pk pk p p n n = true := by simp [sameH]
theorem rhC_one (xs : List UInt8) : (rhC xs).toArray.all (·.oneCell') = true := by
  obtain ⟨pk, p, n, h, _⟩ := rhC_is xs
  rw [h]
  exact hd_one
set_option maxHeartbeats 4000000 in
theorem headReads_calls {w : World} {pk : List UInt8} {p n : Int} {A : Option Addr} {m c : Nat} {xs : List UInt8} (lp : pk.length = 32) (hb : Bs w A m c xs) :
    Calls Try.prog 3 #[.agg (hdC pk p n).toArray, .slice A m c] w fun e w' => e = .returned (.bool true) ∧ Ext w w' := by
  have AW := Lib.hid (fun (W : World) => awake12_calls (w := W))
  have BH := Lib.hid (fun (W : World) => hbytes_calls (w := W) (p := p) (n := n) lp)
  have BR := Lib.hid (fun (W : World) => rbytes_calls (w := W) (p := p) (n := n) lp)
  have RH := Lib.hid (fun (W : World) (e : Ext w W) => hread_calls (hb.ext e))
  have RR := Lib.hid (fun (W : World) (e : Ext w W) => rread_calls (hb.ext e))
  have CV : Hid (∀ (W : World) A n c (ys : List UInt8), Bs W A n c ys → (convert 26 9 (.slice A n c)).run Try.prog W = .ok (.string (strL ys)) W) := fun W A n c ys h => conv_bs h
  have L_hr := rhC_len (xs := xs)
  have O_hr := Lib.hid (rhC_one xs)
  obtain ⟨qk, qp, qn, hq, lq⟩ := rhC_is xs
  have SH := Lib.hid (sameH_refl qk qp qn)
  replace hq := Lib.hid (fun _ : Unit => hq)
  have hal := head_alloc
  have L_hz : (hdC (List.replicate 32 0) 0 0).length = 34 := hdC_len rfl 0 0
  have L_hd := hdC_len lp p n
  clear hb
  generalize hbX pk p n = xb at *
  generalize hbE p n = xe at *
  generalize hdC (List.replicate 32 0) 0 0 = hz at *
  generalize rhC xs = hr at *
  generalize reH xs = re at *
  obtain ⟨hd, hhd⟩ : ∃ hd, hd = hdC pk p n := ⟨_, rfl⟩
  rw [← hhd] at BH BR L_hd ⊢
  clear hhd
  have S_hz : hz.toArray.size = 34 := by rw [List.size_toArray, L_hz]
  have S_hr : hr.toArray.size = 34 := by rw [List.size_toArray, L_hr]
  have S_hd : hd.toArray.size = 34 := by rw [List.size_toArray, L_hd]
  have es : Hid (((strL xb).toList == (strL xb).toList) = true) := by unfold Hid; simp
  generalize strL xb = sb at *
  obtain ⟨r, hr_⟩ : ∃ r, r = w.heap.size := ⟨_, rfl⟩
  have B0 : Hid (Cb (w.alloc (Obj.cells hd.toArray 25)) r 25 hd ∧ Ext w (w.alloc (Obj.cells hd.toArray 25))) := by rw [hr_]; exact ⟨Cb.new _ _ _, (Ext.refl w).alloc _⟩
  go_enter Try.func3, Try.ntmps3
  go_upto_region 1 with fail
  refine wp_gen (fun W => Cb W r 25 hd ∧ Ext w W) B0.out ?_
  rintro w0 ⟨q_r, q_x⟩
  have Q0 : Hid (∀ s, Ext w0 s → Cb s r 25 hd ∧ Ext w s) := fun s e => ⟨q_r.ext e, q_x.trans e⟩
  clear q_r q_x
  rw [← hr_]
  clear hr_ B0
  go_wp2_with (fail)
  refine (AW.out _).mono ?_
  rintro e u_ ⟨rfl, e1⟩
  have R_ : Cb u_ r 25 hd ∧ Ext w u_ := Q0.out _ e1
  clear Q0 e1 
  generalize u_ = w1 at *
  obtain ⟨q_r, q_x⟩ := R_
  have Q1 : Hid (∀ s, Ext w1 s → Cb s r 25 hd ∧ Ext w s) := fun s e => ⟨q_r.ext e, q_x.trans e⟩
  clear q_r q_x
  rcases Nat.lt_or_ge 1000 m with hm | hm
  · have u1 : decide ((m : Int) > 1000) = true := decide_eq_true (by omega)
    go_wp2_with fail
    go_ret
    exact ⟨rfl, ((Q1.out _ (Ext.refl _)).2)⟩
  have u1 : decide ((m : Int) > 1000) = false := decide_eq_false (by omega)
  go_wp2_with (((with_reducible refine wpList_load_rowW (o := ⟨some 20, _, _, _, _, _⟩) ?_ 25 _ rfl r ?_ 25 hd.toArray (0, 0) _ ?_ Try.underlying25 ?_ ?_ ?_); (· rfl); (· rfl); (· exact ((Q1.out _ (Ext.refl _)).1)); (· rfl); (· rw [S_hd]; rfl); simp only [Act.put, List.setIfInBounds_toArray, List.set_cons_zero, List.set_cons_succ]))
  refine (BH.out _).mono ?_
  rintro e u_ ⟨A1, n1, c1, rfl, b1, e1⟩
  have R_ : Bs u_ A1 n1 c1 xb ∧ Cb u_ r 25 hd ∧ Ext w u_ := ⟨b1, Q1.out _ e1⟩
  clear Q1 e1 b1
  generalize u_ = w2 at *
  obtain ⟨q_b, q_r, q_x⟩ := R_
  have Q2 : Hid (∀ s, Ext w2 s → Bs s A1 n1 c1 xb ∧ Cb s r 25 hd ∧ Ext w s) := fun s e => ⟨q_b.ext e, q_r.ext e, q_x.trans e⟩
  clear q_b q_r q_x
  go_wp2_with (((with_reducible refine wpList_load_rowW (o := ⟨some 25, _, _, _, _, _⟩) ?_ 25 _ rfl r ?_ 25 hd.toArray (0, 0) _ ?_ Try.underlying25 ?_ ?_ ?_); (· rfl); (· rfl); (· exact ((Q2.out _ (Ext.refl _)).2.1)); (· rfl); (· rw [S_hd]; rfl); simp only [Act.put, List.setIfInBounds_toArray, List.set_cons_zero, List.set_cons_succ]))
  refine (BR.out _).mono ?_
  rintro e u_ ⟨A2, n2, c2, rfl, b2, e1⟩
  have R_ : Bs u_ A2 n2 c2 xb ∧ Bs u_ A1 n1 c1 xb ∧ Cb u_ r 25 hd ∧ Ext w u_ := ⟨b2, Q2.out _ e1⟩
  clear Q2 e1 b2
  generalize u_ = w3 at *
  obtain ⟨q_c, q_b, q_r, q_x⟩ := R_
  have Q3 : Hid (∀ s, Ext w3 s → Bs s A2 n2 c2 xb ∧ Bs s A1 n1 c1 xb ∧ Cb s r 25 hd ∧ Ext w s) := fun s e => ⟨q_c.ext e, q_b.ext e, q_r.ext e, q_x.trans e⟩
  clear q_c q_b q_r q_x
  go_wp2_with (fail)
  refine (RH.out _ ((Q3.out _ (Ext.refl _)).2.2.2)).mono ?_
  rintro e u_ ⟨rfl, e1⟩
  have a1 : Hid ((u_.alloc (Obj.cells hz.toArray 25)).heap[u_.heap.size]? = some (.cells hz.toArray 25 (0, 0))) := heap_alloc_new _ _
  have E_ : Ext u_ ((u_.alloc (Obj.cells hz.toArray 25)).setRow u_.heap.size hr.toArray) := below_setRow ((Ext.refl u_).alloc _) (Nat.le_refl _) _
  replace e1 := Lib.hid e1
  go_upto_region 7 with (((with_reducible refine wpList_store_row (o := ⟨none, .store 25 (.tmp 10) (.tmp 32), _, _, _, _⟩) ?_ 25 _ _ rfl u_.heap.size hr.toArray ?_ ?_ 25 hz.toArray ?_ ?_ ?_ ?_ ?_); (· rfl); (· rfl); (· rfl); (· exact a1.out); (· rw [S_hr]; rfl); (· rw [S_hr, S_hz]); (· exact O_hr.out); simp only [Act.put, List.setIfInBounds_toArray, List.set_cons_zero, List.set_cons_succ]))
  obtain ⟨g1, hg_⟩ : ∃ g, g = u_.heap.size := ⟨_, rfl⟩
  refine wp_gen (fun W => Cb W g1 25 hr ∧ Bs W A2 n2 c2 xb ∧ Bs W A1 n1 c1 xb ∧ Cb W r 25 hd ∧ Ext w W) ⟨by rw [hg_]; exact setRow_heap _ _ _ _ _ _ a1.out, Q3.out _ (e1.out.trans E_)⟩ ?_
  rw [← hg_]
  clear hg_ a1 E_ e1 Q3  
  rintro w4 ⟨q_g1, q_c, q_b, q_r, q_x⟩
  have Q4 : Hid (∀ s, Ext w4 s → Cb s g1 25 hr ∧ Bs s A2 n2 c2 xb ∧ Bs s A1 n1 c1 xb ∧ Cb s r 25 hd ∧ Ext w s) := fun s e => ⟨q_g1.ext e, q_c.ext e, q_b.ext e, q_r.ext e, q_x.trans e⟩
  clear q_g1 q_c q_b q_r q_x
  go_wp2_with (fail)
  refine (RR.out _ ((Q4.out _ (Ext.refl _)).2.2.2.2)).mono ?_
  rintro e u_ ⟨rfl, e1⟩
  have a1 : Hid ((u_.alloc (Obj.cells hz.toArray 25)).heap[u_.heap.size]? = some (.cells hz.toArray 25 (0, 0))) := heap_alloc_new _ _
  have E_ : Ext u_ ((u_.alloc (Obj.cells hz.toArray 25)).setRow u_.heap.size hr.toArray) := below_setRow ((Ext.refl u_).alloc _) (Nat.le_refl _) _
  replace e1 := Lib.hid e1
  go_upto_region 8 with (((with_reducible refine wpList_store_row (o := ⟨none, .store 25 (.tmp 12) (.tmp 37), _, _, _, _⟩) ?_ 25 _ _ rfl u_.heap.size hr.toArray ?_ ?_ 25 hz.toArray ?_ ?_ ?_ ?_ ?_); (· rfl); (· rfl); (· rfl); (· exact a1.out); (· rw [S_hr]; rfl); (· rw [S_hr, S_hz]); (· exact O_hr.out); simp only [Act.put, List.setIfInBounds_toArray, List.set_cons_zero, List.set_cons_succ]))
  obtain ⟨g2, hg_⟩ : ∃ g, g = u_.heap.size := ⟨_, rfl⟩
  refine wp_gen (fun W => Cb W g2 25 hr ∧ Cb W g1 25 hr ∧ Bs W A2 n2 c2 xb ∧ Bs W A1 n1 c1 xb ∧ Cb W r 25 hd ∧ Ext w W) ⟨by rw [hg_]; exact setRow_heap _ _ _ _ _ _ a1.out, Q4.out _ (e1.out.trans E_)⟩ ?_
  rw [← hg_]
  clear hg_ a1 E_ e1 Q4  
  rintro w5 ⟨q_g2, q_g1, q_c, q_b, q_r, q_x⟩
  have Q5 : Hid (∀ s, Ext w5 s → Cb s g2 25 hr ∧ Cb s g1 25 hr ∧ Bs s A2 n2 c2 xb ∧ Bs s A1 n1 c1 xb ∧ Cb s r 25 hd ∧ Ext w s) := fun s e => ⟨q_g2.ext e, q_g1.ext e, q_c.ext e, q_b.ext e, q_r.ext e, q_x.trans e⟩
  clear q_g2 q_g1 q_c q_b q_r q_x
  have u5 := CV.out _ _ _ _ _ ((Q5.out _ (Ext.refl _)).2.2.2.1)
  have u6 := CV.out _ _ _ _ _ ((Q5.out _ (Ext.refl _)).2.2.1)
  have u7 := es.out
  have u8 : (xe == xe) = true := by simp
  have u9 : (re == re) = true := by simp
  go_wp2_with (first
      | ((with_reducible refine wpList_load_rowW (o := ⟨some 53, _, _, _, _, _⟩) ?_ 25 _ rfl g1 ?_ 25 hr.toArray (0, 0) _ ?_ Try.underlying25 ?_ ?_ ?_); (· rfl); (· rfl); (· exact ((Q5.out _ (Ext.refl _)).2.1)); (· rfl); (· rw [S_hr]; rfl); simp only [Act.put, List.setIfInBounds_toArray, List.set_cons_zero, List.set_cons_succ])
      | ((with_reducible refine wpList_load_rowW (o := ⟨some 54, _, _, _, _, _⟩) ?_ 25 _ rfl g2 ?_ 25 hr.toArray (0, 0) _ ?_ Try.underlying25 ?_ ?_ ?_); (· rfl); (· rfl); (· exact ((Q5.out _ (Ext.refl _)).1)); (· rfl); (· rw [S_hr]; rfl); simp only [Act.put, List.setIfInBounds_toArray, List.set_cons_zero, List.set_cons_succ])
      | ((with_reducible refine wpList_eql_headB (o := ⟨some 55, _, _, _, _, _⟩) ?_ _ _ _ rfl SH.out (hq.out ()) (hq.out ()) ?_ ?_ lq lq ?_); (· rfl); (· rfl); (· rfl); simp only [Act.put, List.setIfInBounds_toArray, List.set_cons_zero, List.set_cons_succ]))
  go_ret
  exact ⟨rfl, ((Q5.out _ (Ext.refl _)).2.2.2.2.2)⟩
end Go.Proofs.Ytojgmgghlkpfoaa
