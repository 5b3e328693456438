/-
  The law HeadEnvelopes.
-/
import Derived.Test.YtojgmgghlkpfoaaEnv12
namespace Go.Proofs.Ytojgmgghlkpfoaa
open Go.ChangeShapes Go.WideShapes Go.ChangeAt Go.RowKit Go.Deep
set_option maxRecDepth 100000

set_option maxHeartbeats 16000000 in
theorem headEnvelopes_calls {w : World} {f t p n : Int} {cm pk body : List UInt8} {A : Option Addr} {m c : Nat} {X : Option Addr} {l d : Nat} {xs : List UInt8} (hc : cm.length = 32) (hk : pk.length = 32) (hb : Bs w A m c body) (hx : Bs w X l d xs) :
    Calls Try.prog 4 #[.agg (evC f t cm pk p n A m c).toArray, .slice X l d] w fun e w' => e = .returned (.bool true) ∧ Ext w w' := by
  have AW := Lib.hid (fun (W : World) => awake12_calls (w := W))
  have EN := Lib.hid (fun (W : World) (e : Ext w W) => henv_calls (f := f) (t := t) (p := p) (n := n) hc hk (hb.ext e))
  have CV : Hid (∀ (W : World) A n c (ys : List UInt8), Bs W A n c ys → (convert 26 9 (.slice A n c)).run Try.prog W = .ok (.string (strL ys)) W) := fun W A n c ys h => conv_bs h
  have BD : Hid (∀ s, Ext w s → Bs s A m c body) := fun s e => hb.ext e
  have lm := hb.len
  have hle := hb.le
  have hcap := hb.cap
  have hal := env_alloc
  have L_ez := evz_len
  obtain ⟨c0, c1, c68, ch, c5⟩ := ev_cells hc hk f t p n A m c
  replace c0 := Lib.hid c0
  replace c1 := Lib.hid c1
  replace c68 := Lib.hid c68
  have l34 : ([Value.int .i64 f, .int .i64 t] ++ cellsOf cm).length = 34 := by simp [cellsOf_len, hc]
  have H34 : Hid (∀ (W : World) (g : Nat) T, Cb W g T (evC f t cm pk p n A m c) → ∀ j v, (hdC pk p n)[j]? = some v → W.cell? ⟨g, 34 + j, none⟩ = some v) := fun W g T k => k.mid ch l34
  clear ch c5 l34
  have L_hp := hdC_len hk p n
  have L_ev := evC_len hc hk f t p n A m c
  have RN := Lib.hid (fun (W : World) (e : Ext w W) => renv_calls (f := f) (t := t) (p := p) (n := n) hc hk (hb.ext e))
  have RH := Lib.hid (fun (W : World) (e : Ext w W) => hreadE_calls (hx.ext e))
  have RR := Lib.hid (fun (W : World) (e : Ext w W) (h : l ≤ 1000000) => rreadE_calls (hx.ext e) h)
  obtain ⟨lc, lk⟩ := rCK_len xs
  have SAME : Hid (∀ (W : World) A m c A' m' c', Bs W A m c (rB xs) → Bs W A' m' c' (rB xs) → Calls Try.prog 21 #[.agg (evC (rF xs) (rT xs) (rC xs) (rK xs) (rP xs) (rN xs) A m c).toArray, .agg (evC (rF xs) (rT xs) (rC xs) (rK xs) (rP xs) (rN xs) A' m' c').toArray] W fun e w' => e = .returned (.bool true) ∧ Ext W w') := fun W A m c A' m' c' h1 h2 => by
    have := same12_calls (f := rF xs) (f' := rF xs) (t := rT xs) (t' := rT xs) (p := rP xs) (p' := rP xs) (n := rN xs) (n' := rN xs) lc lk lc lk h1 h2
    rw [sameE_refl] at this
    exact this
  have LV : Hid (∀ A m c, (evC (rF xs) (rT xs) (rC xs) (rK xs) (rP xs) (rN xs) A m c).length = 69 ∧ (evC (rF xs) (rT xs) (rC xs) (rK xs) (rP xs) (rN xs) A m c).toArray.all (·.oneCell') = true) := fun A m c => ⟨evC_len lc lk _ _ _ _ _ _ _, ev_one⟩
  clear lc lk hx
  have es : Hid (((strL (enX f t cm pk p n body)).toList == (strL (enX f t cm pk p n body)).toList) = true) := by unfold Hid; simp
  generalize enX f t cm pk p n body = xb at *
  generalize enE f t p n m = xe at *
  generalize strL xb = sb at *
  unfold RvP at RH RR
  generalize rF xs = yf at *
  generalize rT xs = yt at *
  generalize rC xs = yc at *
  generalize rK xs = yk at *
  generalize rP xs = yp at *
  generalize rN xs = yn at *
  generalize rB xs = yb at *
  generalize reE xs = re at *
  clear hb
  obtain ⟨ez, hez⟩ : ∃ ez, ez = evz := ⟨_, rfl⟩
  rw [← hez] at hal L_ez
  clear hez
  have S_ez : ez.toArray.size = 69 := by rw [List.size_toArray, L_ez]
  obtain ⟨ev, hev⟩ : ∃ ev, ev = evC f t cm pk p n A m c := ⟨_, rfl⟩
  rw [← hev] at EN RN L_ev c0 c1 c68 H34 ⊢
  have S_ev : ev.toArray.size = 69 := by rw [List.size_toArray, L_ev]
  obtain ⟨r, hr_⟩ : ∃ r, r = w.heap.size := ⟨_, rfl⟩
  have B0 : Hid (Cb (w.alloc (Obj.cells ev.toArray 35)) r 35 ev ∧ Ext w (w.alloc (Obj.cells ev.toArray 35))) := by rw [hr_]; exact ⟨Cb.new _ _ _, (Ext.refl w).alloc _⟩
  replace hev := Lib.hid (fun _ : Unit => hev)
  go_enter Try.func4, Try.ntmps4
  go_upto_region 1 with fail
  refine wp_gen (fun W => Cb W r 35 ev ∧ Ext w W) B0.out ?_
  rintro w0 ⟨q_r, q_x⟩
  have Q0 : Hid (∀ s, Ext w0 s → Cb s r 35 ev ∧ Ext w s) := fun s e => ⟨q_r.ext e, q_x.trans e⟩
  clear q_r q_x
  rw [← hr_]
  clear hr_ B0
  go_wp2_with (fail)
  refine (AW.out _).mono ?_
  rintro e u_ ⟨rfl, e1⟩
  have R_ : Cb u_ r 35 ev ∧ Ext w u_ := Q0.out _ e1
  clear Q0 e1 
  generalize u_ = w1 at *
  obtain ⟨q_r, q_x⟩ := R_
  have Q1 : Hid (∀ s, Ext w1 s → Cb s r 35 ev ∧ Ext w s) := fun s e => ⟨q_r.ext e, q_x.trans e⟩
  clear q_r q_x
  have f0 := ((Q1.out _ (Ext.refl _)).1).cell c68.out
  rcases Nat.lt_or_ge 1000 m with hm | hm
  · have u1 : decide ((m : Int) > 1000) = true := decide_eq_true (by omega)
    go_wp2_with fail
    go_ret
    exact ⟨rfl, ((Q1.out _ (Ext.refl _)).2)⟩
  rcases Nat.lt_or_ge 1000 l with hm2 | hm2
  · have u1 : decide ((m : Int) > 1000) = false := decide_eq_false (by omega)
    have u2 : decide ((l : Int) > 1000) = true := decide_eq_true (by omega)
    go_wp2_with fail
    go_ret
    exact ⟨rfl, ((Q1.out _ (Ext.refl _)).2)⟩
  have u1 : decide ((m : Int) > 1000) = false := decide_eq_false (by omega)
  have u2 : decide ((l : Int) > 1000) = false := decide_eq_false (by omega)
  go_wp2_with (((with_reducible refine wpList_load_rowW (o := ⟨some 27, _, _, _, _, _⟩) ?_ 35 _ rfl r ?_ 35 ev.toArray (0, 0) _ ?_ Try.underlying35 ?_ ?_ ?_); (· rfl); (· rfl); (· exact ((Q1.out _ (Ext.refl _)).1)); (· rfl); (· rw [S_ev]; rfl); simp only [Act.put, List.setIfInBounds_toArray, List.set_cons_zero, List.set_cons_succ]))
  refine (EN.out _ ((Q1.out _ (Ext.refl _)).2)).mono ?_
  rintro e u_ ⟨A1, n1, c1, rfl, b1, e1⟩
  have R_ : Bs u_ A1 n1 c1 xb ∧ Cb u_ r 35 ev ∧ Ext w u_ := ⟨b1, Q1.out _ e1⟩
  clear Q1 e1 b1 f0
  generalize u_ = w2 at *
  obtain ⟨q_b, q_r, q_x⟩ := R_
  have Q2 : Hid (∀ s, Ext w2 s → Bs s A1 n1 c1 xb ∧ Cb s r 35 ev ∧ Ext w s) := fun s e => ⟨q_b.ext e, q_r.ext e, q_x.trans e⟩
  clear q_b q_r q_x
  go_wp2_with (((with_reducible refine wpList_load_rowW (o := ⟨some 32, _, _, _, _, _⟩) ?_ 35 _ rfl r ?_ 35 ev.toArray (0, 0) _ ?_ Try.underlying35 ?_ ?_ ?_); (· rfl); (· rfl); (· exact ((Q2.out _ (Ext.refl _)).2.1)); (· rfl); (· rw [S_ev]; rfl); simp only [Act.put, List.setIfInBounds_toArray, List.set_cons_zero, List.set_cons_succ]))
  refine (RN.out _ ((Q2.out _ (Ext.refl _)).2.2)).mono ?_
  rintro e u_ ⟨A2, n2, c2, rfl, b2, e1⟩
  have R_ : Bs u_ A2 n2 c2 xb ∧ Bs u_ A1 n1 c1 xb ∧ Cb u_ r 35 ev ∧ Ext w u_ := ⟨b2, Q2.out _ e1⟩
  clear Q2 e1 b2
  generalize u_ = w3 at *
  obtain ⟨q_c, q_b, q_r, q_x⟩ := R_
  have Q3 : Hid (∀ s, Ext w3 s → Bs s A2 n2 c2 xb ∧ Bs s A1 n1 c1 xb ∧ Cb s r 35 ev ∧ Ext w s) := fun s e => ⟨q_c.ext e, q_b.ext e, q_r.ext e, q_x.trans e⟩
  clear q_c q_b q_r q_x
  go_wp2_with (fail)
  refine (RH.out _ ((Q3.out _ (Ext.refl _)).2.2.2)).mono ?_
  rintro e u_ ⟨B1, n3, d1, rfl, b1, e1⟩
  obtain ⟨v1, hv1⟩ : ∃ v, v = (evC yf yt yc yk yp yn B1 n3 d1) := ⟨_, rfl⟩
  rw [← hv1]
  have S_v1 : v1.toArray.size = 69 := by rw [List.size_toArray, hv1]; exact (LV.out _ _ _).1
  have O_v1 : Hid (v1.toArray.all (·.oneCell') = true) := by rw [hv1]; exact (LV.out _ _ _).2
  replace hv1 := Lib.hid (fun _ : Unit => hv1)
  have a1 : Hid ((u_.alloc (Obj.cells ez.toArray 35)).heap[u_.heap.size]? = some (.cells ez.toArray 35 (0, 0))) := heap_alloc_new _ _
  have E_ : Ext u_ ((u_.alloc (Obj.cells ez.toArray 35)).setRow u_.heap.size v1.toArray) := below_setRow ((Ext.refl u_).alloc _) (Nat.le_refl _) _
  have n_y1 : Bs u_ B1 n3 d1 yb := b1
  replace e1 := Lib.hid e1
  replace n_y1 := Lib.hid n_y1
  go_upto_region 7 with (((with_reducible refine wpList_store_row (o := ⟨none, .store 35 (.tmp 10) (.tmp 39), _, _, _, _⟩) ?_ 35 _ _ rfl u_.heap.size v1.toArray ?_ ?_ 35 ez.toArray ?_ ?_ ?_ ?_ ?_); (· rfl); (· rfl); (· rfl); (· exact a1.out); (· rw [S_v1]; rfl); (· rw [S_v1, S_ez]); (· exact O_v1.out); simp only [Act.put, List.setIfInBounds_toArray, List.set_cons_zero, List.set_cons_succ]))
  obtain ⟨g1, hg_⟩ : ∃ g, g = u_.heap.size := ⟨_, rfl⟩
  refine wp_gen (fun W => Cb W g1 35 v1 ∧ Bs W B1 n3 d1 yb ∧ Bs W A2 n2 c2 xb ∧ Bs W A1 n1 c1 xb ∧ Cb W r 35 ev ∧ Ext w W) ⟨by rw [hg_]; exact setRow_heap _ _ _ _ _ _ a1.out, n_y1.out.ext E_, Q3.out _ (e1.out.trans E_)⟩ ?_
  rw [← hg_]
  clear hg_ a1 E_ e1 Q3 n_y1 b1
  rintro w4 ⟨q_g1, q_y1, q_c, q_b, q_r, q_x⟩
  have Q4 : Hid (∀ s, Ext w4 s → Cb s g1 35 v1 ∧ Bs s B1 n3 d1 yb ∧ Bs s A2 n2 c2 xb ∧ Bs s A1 n1 c1 xb ∧ Cb s r 35 ev ∧ Ext w s) := fun s e => ⟨q_g1.ext e, q_y1.ext e, q_c.ext e, q_b.ext e, q_r.ext e, q_x.trans e⟩
  clear q_g1 q_y1 q_c q_b q_r q_x
  go_wp2_with (fail)
  refine (RR.out _ ((Q4.out _ (Ext.refl _)).2.2.2.2.2) (by omega)).mono ?_
  rintro e u_ ⟨B2, n4, d2, rfl, b2, e1⟩
  obtain ⟨v2, hv2⟩ : ∃ v, v = (evC yf yt yc yk yp yn B2 n4 d2) := ⟨_, rfl⟩
  rw [← hv2]
  have S_v2 : v2.toArray.size = 69 := by rw [List.size_toArray, hv2]; exact (LV.out _ _ _).1
  have O_v2 : Hid (v2.toArray.all (·.oneCell') = true) := by rw [hv2]; exact (LV.out _ _ _).2
  replace hv2 := Lib.hid (fun _ : Unit => hv2)
  have a1 : Hid ((u_.alloc (Obj.cells ez.toArray 35)).heap[u_.heap.size]? = some (.cells ez.toArray 35 (0, 0))) := heap_alloc_new _ _
  have E_ : Ext u_ ((u_.alloc (Obj.cells ez.toArray 35)).setRow u_.heap.size v2.toArray) := below_setRow ((Ext.refl u_).alloc _) (Nat.le_refl _) _
  have n_y2 : Bs u_ B2 n4 d2 yb := b2
  replace e1 := Lib.hid e1
  replace n_y2 := Lib.hid n_y2
  go_upto_region 8 with (((with_reducible refine wpList_store_row (o := ⟨none, .store 35 (.tmp 12) (.tmp 44), _, _, _, _⟩) ?_ 35 _ _ rfl u_.heap.size v2.toArray ?_ ?_ 35 ez.toArray ?_ ?_ ?_ ?_ ?_); (· rfl); (· rfl); (· rfl); (· exact a1.out); (· rw [S_v2]; rfl); (· rw [S_v2, S_ez]); (· exact O_v2.out); simp only [Act.put, List.setIfInBounds_toArray, List.set_cons_zero, List.set_cons_succ]))
  obtain ⟨g2, hg_⟩ : ∃ g, g = u_.heap.size := ⟨_, rfl⟩
  refine wp_gen (fun W => Cb W g2 35 v2 ∧ Bs W B2 n4 d2 yb ∧ Cb W g1 35 v1 ∧ Bs W B1 n3 d1 yb ∧ Bs W A2 n2 c2 xb ∧ Bs W A1 n1 c1 xb ∧ Cb W r 35 ev ∧ Ext w W) ⟨by rw [hg_]; exact setRow_heap _ _ _ _ _ _ a1.out, n_y2.out.ext E_, Q4.out _ (e1.out.trans E_)⟩ ?_
  rw [← hg_]
  clear hg_ a1 E_ e1 Q4 n_y2 b2
  rintro w5 ⟨q_g2, q_y2, q_g1, q_y1, q_c, q_b, q_r, q_x⟩
  have Q5 : Hid (∀ s, Ext w5 s → Cb s g2 35 v2 ∧ Bs s B2 n4 d2 yb ∧ Cb s g1 35 v1 ∧ Bs s B1 n3 d1 yb ∧ Bs s A2 n2 c2 xb ∧ Bs s A1 n1 c1 xb ∧ Cb s r 35 ev ∧ Ext w s) := fun s e => ⟨q_g2.ext e, q_y2.ext e, q_g1.ext e, q_y1.ext e, q_c.ext e, q_b.ext e, q_r.ext e, q_x.trans e⟩
  clear q_g2 q_y2 q_g1 q_y1 q_c q_b q_r q_x
  have CS := SAME.out _ _ _ _ _ _ _ ((Q5.out _ (Ext.refl _)).2.2.2.1) ((Q5.out _ (Ext.refl _)).2.1)
  rw [← hv1.out (), ← hv2.out ()] at CS
  go_wp2_with (first
      | ((with_reducible refine wpList_load_rowW (o := ⟨some 46, _, _, _, _, _⟩) ?_ 35 _ rfl g1 ?_ 35 v1.toArray (0, 0) _ ?_ Try.underlying35 ?_ ?_ ?_); (· rfl); (· rfl); (· exact ((Q5.out _ (Ext.refl _)).2.2.1)); (· rfl); (· rw [S_v1]; rfl); simp only [Act.put, List.setIfInBounds_toArray, List.set_cons_zero, List.set_cons_succ])
      | ((with_reducible refine wpList_load_rowW (o := ⟨some 47, _, _, _, _, _⟩) ?_ 35 _ rfl g2 ?_ 35 v2.toArray (0, 0) _ ?_ Try.underlying35 ?_ ?_ ?_); (· rfl); (· rfl); (· exact ((Q5.out _ (Ext.refl _)).1)); (· rfl); (· rw [S_v2]; rfl); simp only [Act.put, List.setIfInBounds_toArray, List.set_cons_zero, List.set_cons_succ]))
  refine (CS).mono ?_
  rintro e u_ ⟨rfl, e1⟩
  have R_ : Cb u_ g2 35 v2 ∧ Bs u_ B2 n4 d2 yb ∧ Cb u_ g1 35 v1 ∧ Bs u_ B1 n3 d1 yb ∧ Bs u_ A2 n2 c2 xb ∧ Bs u_ A1 n1 c1 xb ∧ Cb u_ r 35 ev ∧ Ext w u_ := Q5.out _ e1
  clear Q5 e1 CS
  generalize u_ = w6 at *
  obtain ⟨q_g2, q_y2, q_g1, q_y1, q_c, q_b, q_r, q_x⟩ := R_
  have Q6 : Hid (∀ s, Ext w6 s → Cb s g2 35 v2 ∧ Bs s B2 n4 d2 yb ∧ Cb s g1 35 v1 ∧ Bs s B1 n3 d1 yb ∧ Bs s A2 n2 c2 xb ∧ Bs s A1 n1 c1 xb ∧ Cb s r 35 ev ∧ Ext w s) := fun s e => ⟨q_g2.ext e, q_y2.ext e, q_g1.ext e, q_y1.ext e, q_c.ext e, q_b.ext e, q_r.ext e, q_x.trans e⟩
  clear q_g2 q_y2 q_g1 q_y1 q_c q_b q_r q_x
  have u5 := CV.out _ _ _ _ _ ((Q6.out _ (Ext.refl _)).2.2.2.2.2.1)
  have u6 := CV.out _ _ _ _ _ ((Q6.out _ (Ext.refl _)).2.2.2.2.1)
  have u7 := es.out
  have u8 : (xe == xe) = true := by simp
  have u9 : (re == re) = true := by simp
  go_wp2_with fail
  go_ret
  exact ⟨rfl, ((Q6.out _ (Ext.refl _)).2.2.2.2.2.2.2)⟩
end Go.Proofs.Ytojgmgghlkpfoaa
