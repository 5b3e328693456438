/-
  The law HeadBack.
-/
import Derived.Test.YtojgmgghlkpfoaaEnv12
namespace Go.Proofs.Ytojgmgghlkpfoaa
open Go.ChangeShapes Go.WideShapes Go.ChangeAt Go.RowKit Go.Deep
set_option maxRecDepth 100000

set_option maxHeartbeats 16000000 in
theorem headBack_calls {w : World} {f t p n : Int} {cm pk body : List UInt8} {A : Option Addr} {m c : Nat} {X : Option Addr} {l d : Nat} {xs : List UInt8} (hc : cm.length = 32) (hk : pk.length = 32) (hb : Bs w A m c body) (hx : Bs w X l d xs) :
    Calls Try.prog 5 #[.agg (evC f t cm pk p n A m c).toArray, .slice X l d] w fun e w' => e = .returned (.bool true) ∧ Ext w w' := by
  have AW := Lib.hid (fun (W : World) => awake12_calls (w := W))
  have EN := Lib.hid (fun (W : World) (e : Ext w W) => henv_calls (f := f) (t := t) (p := p) (n := n) hc hk (hb.ext e))
  have CV : Hid (∀ (W : World) A n c (ys : List UInt8), Bs W A n c ys → (convert 26 9 (.slice A n c)).run Try.prog W = .ok (.string (strL ys)) W) := fun W A n c ys h => conv_bs h
  have BD : Hid (∀ s, Ext w s → Bs s A m c body) := fun s e => hb.ext e
  have lm := hb.len
  have hle := hb.le
  have hcap := hb.cap
  have hal := env_alloc
  have L_ez := evz_len
  obtain ⟨c0, cc1, c68, ch, c5⟩ := ev_cells hc hk f t p n A m c
  replace c0 := Lib.hid c0
  replace cc1 := Lib.hid cc1
  replace c68 := Lib.hid c68
  have l34 : ([Value.int .i64 f, .int .i64 t] ++ cellsOf cm).length = 34 := by simp [cellsOf_len, hc]
  have H34 : Hid (∀ (W : World) (g : Nat) T, Cb W g T (evC f t cm pk p n A m c) → ∀ j v, (hdC pk p n)[j]? = some v → W.cell? ⟨g, 34 + j, none⟩ = some v) := fun W g T k => k.mid ch l34
  clear ch c5 l34
  have L_hp := hdC_len hk p n
  have L_ev := evC_len hc hk f t p n A m c
  have RH1 : Hid (∀ (W : World) A i d, Bs W A i d (enX f t cm pk p n body) → Calls Try.prog 19 #[.slice A i d] W (RvP (enX f t cm pk p n body) W)) := fun W A i d h => hreadE_calls h
  have LV1 : Hid (∀ A m c, (evC (rF (enX f t cm pk p n body)) (rT (enX f t cm pk p n body)) (rC (enX f t cm pk p n body)) (rK (enX f t cm pk p n body)) (rP (enX f t cm pk p n body)) (rN (enX f t cm pk p n body)) A m c).length = 69 ∧ (evC (rF (enX f t cm pk p n body)) (rT (enX f t cm pk p n body)) (rC (enX f t cm pk p n body)) (rK (enX f t cm pk p n body)) (rP (enX f t cm pk p n body)) (rN (enX f t cm pk p n body)) A m c).toArray.all (·.oneCell') = true) := fun A m c => ⟨evC_len (rCK_len _).1 (rCK_len _).2 _ _ _ _ _ _ _, ev_one⟩
  obtain ⟨sm, hsm⟩ : ∃ sm, sm = sameE (rF (enX f t cm pk p n body)) f (rT (enX f t cm pk p n body)) t (rC (enX f t cm pk p n body)) cm (rK (enX f t cm pk p n body)) pk (rP (enX f t cm pk p n body)) p (rN (enX f t cm pk p n body)) n (rB (enX f t cm pk p n body)) body := ⟨_, rfl⟩
  have SM : Hid (∀ (W : World) A' m' c', Bs W A' m' c' (rB (enX f t cm pk p n body)) → Bs W A m c body → Calls Try.prog 21 #[.agg (evC (rF (enX f t cm pk p n body)) (rT (enX f t cm pk p n body)) (rC (enX f t cm pk p n body)) (rK (enX f t cm pk p n body)) (rP (enX f t cm pk p n body)) (rN (enX f t cm pk p n body)) A' m' c').toArray, .agg (evC f t cm pk p n A m c).toArray] W fun e w' => e = .returned (.bool sm) ∧ Ext W w') := fun W A' m' c' h1 h2 => by
    rw [hsm]
    exact same12_calls (rCK_len _).1 (rCK_len _).2 hc hk h1 h2
  have CASE1 : Hid (enE f t p n m = 1 ∨ (enE f t p n m = 0 ∧ reE (enX f t cm pk p n body) = 0 ∧ sm = true)) := by
    rcases h : okE f t p n m with _ | _
    · exact Or.inl (by unfold enE; rw [h]; rfl)
    · refine Or.inr ⟨by unfold enE; rw [h]; rfl, ?_⟩
      obtain ⟨q0, q1, q2, q3, q4, q5, q6, q7, _⟩ := env_back (f := f) (t := t) (p := p) (n := n) (body := body) hc hk (by rw [lm]; exact h)
      refine ⟨q0, ?_⟩
      rw [hsm, q1, q2, q3, q4, q5, q6, q7]
      exact sameE_refl _ _ _ _ _ _ _
  clear hsm
  have HB := Lib.hid (fun (W : World) => hbytes_calls (w := W) (p := p) (n := n) hk)
  have HR : Hid (∀ (W : World) A i d, Bs W A i d (hbX pk p n) → Calls Try.prog 15 #[.slice A i d] W fun e w' => e = .returned (.tuple #[.agg (rhC (hbX pk p n)).toArray, .int .i64 (reH (hbX pk p n))]) ∧ Ext W w') := fun W A i d h => hread_calls h
  have CASE2 : Hid (hbE p n = 1 ∨ (hbE p n = 0 ∧ reH (hbX pk p n) = 0 ∧ rhC (hbX pk p n) = hdC pk p n)) := by
    rcases h : okH p n with _ | _
    · exact Or.inl (by unfold hbE; rw [h]; rfl)
    · obtain ⟨a, b, rfl, rfl, ha, hb'⟩ := okH_nat h
      refine Or.inr ⟨by unfold hbE; rw [h]; rfl, ?_⟩
      unfold hbX
      rw [h]
      exact reH_head hk ha hb'
  have LH1 : (rhC (hbX pk p n)).length = 34 ∧ (rhC (hbX pk p n)).toArray.all (·.oneCell') = true ∧ ((hdC (List.replicate 32 0) 0 0).length = 34) := ⟨rhC_len, by
    unfold rhC
    split
    · exact hd_one
    · exact hd_one, hdC_len rfl 0 0⟩
  obtain ⟨L_hv, O_hv, L_hz⟩ := LH1
  replace O_hv := Lib.hid O_hv
  have hza := head_alloc
  have RH3 := Lib.hid (fun (W : World) (e : Ext w W) => hreadE_calls (hx.ext e))
  have LV3 : Hid (∀ A m c, (evC (rF xs) (rT xs) (rC xs) (rK xs) (rP xs) (rN xs) A m c).length = 69 ∧ (evC (rF xs) (rT xs) (rC xs) (rK xs) (rP xs) (rN xs) A m c).toArray.all (·.oneCell') = true) := fun A m c => ⟨evC_len (rCK_len xs).1 (rCK_len xs).2 _ _ _ _ _ _ _, ev_one⟩
  have HN3 : Hid (∀ (W : World) A i d, Bs W A i d (rB xs) → Calls Try.prog 17 #[.agg (evC (rF xs) (rT xs) (rC xs) (rK xs) (rP xs) (rN xs) A i d).toArray] W (RetBsE (enX (rF xs) (rT xs) (rC xs) (rK xs) (rP xs) (rN xs) (rB xs)) (enE (rF xs) (rT xs) (rP xs) (rN xs) (rB xs).length) W)) := fun W A i d h => by
    rw [h.len]
    exact henv_calls (rCK_len xs).1 (rCK_len xs).2 h
  have CASE3 : Hid (reE xs = 2 ∨ reE xs = 3 ∨ (reE xs = 0 ∧ enE (rF xs) (rT xs) (rP xs) (rN xs) (rB xs).length = 0 ∧ enX (rF xs) (rT xs) (rC xs) (rK xs) (rP xs) (rN xs) (rB xs) = xs)) := by
    rcases Decidable.em (reE xs = 0) with h | h
    · obtain ⟨h1, h2⟩ := env_just h
      exact Or.inr (Or.inr ⟨h, by unfold enE; rw [h1]; rfl, h2⟩)
    · unfold Hid
      unfold reE at h ⊢
      repeat' split
      all_goals simp_all
  have BX : Hid (∀ s, Ext w s → Bs s X l d xs) := fun s e => hx.ext e
  clear hx
  have es : Hid (((strL xs).toList == (strL xs).toList) = true) := by unfold Hid; simp
  have SH : Hid ((!sameH pk pk p p n n) = false) := Lib.hid (by simp [sameH])
  unfold RvP at RH1 RH3
  generalize enX (rF xs) (rT xs) (rC xs) (rK xs) (rP xs) (rN xs) (rB xs) = zb at *
  generalize enE (rF xs) (rT xs) (rP xs) (rN xs) (rB xs).length = ze at *
  generalize rF xs = yf at *
  generalize rT xs = yt at *
  generalize rC xs = yc at *
  generalize rK xs = yk at *
  generalize rP xs = yp at *
  generalize rN xs = yn at *
  generalize rB xs = yb at *
  generalize reE xs = re at *
  generalize enX f t cm pk p n body = xb at *
  generalize enE f t p n m = xe at *
  generalize rF xb = zf at *
  generalize rT xb = zt at *
  generalize rC xb = zc at *
  generalize rK xb = zk at *
  generalize rP xb = zp at *
  generalize rN xb = zn at *
  generalize rB xb = zw at *
  generalize reE xb = rr at *
  generalize rhC (hbX pk p n) = hv at *
  generalize reH (hbX pk p n) = hi at *
  generalize hbX pk p n = hb8 at *
  generalize hbE p n = he at *
  generalize hdC (List.replicate 32 0) 0 0 = hz at *
  obtain ⟨hd, hhd⟩ : ∃ hd, hd = hdC pk p n := ⟨_, rfl⟩
  rw [← hhd] at HB H34 L_hp CASE2
  have S_hz : hz.toArray.size = 34 := by rw [List.size_toArray, L_hz]
  have S_hv : hv.toArray.size = 34 := by rw [List.size_toArray, L_hv]
  replace hhd := Lib.hid (fun _ : Unit => hhd)
  clear hb
  obtain ⟨ez, hez⟩ : ∃ ez, ez = evz := ⟨_, rfl⟩
  rw [← hez] at hal L_ez
  clear hez
  have S_ez : ez.toArray.size = 69 := by rw [List.size_toArray, L_ez]
  obtain ⟨ev, hev⟩ : ∃ ev, ev = evC f t cm pk p n A m c := ⟨_, rfl⟩
  rw [← hev] at EN SM L_ev c0 cc1 c68 H34 ⊢
  have S_ev : ev.toArray.size = 69 := by rw [List.size_toArray, L_ev]
  obtain ⟨r, hr_⟩ : ∃ r, r = w.heap.size := ⟨_, rfl⟩
  have B0 : Hid (Cb (w.alloc (Obj.cells ev.toArray 35)) r 35 ev ∧ Ext w (w.alloc (Obj.cells ev.toArray 35))) := by rw [hr_]; exact ⟨Cb.new _ _ _, (Ext.refl w).alloc _⟩
  replace hev := Lib.hid (fun _ : Unit => hev)
  go_enter Try.func5, Try.ntmps5
  go_upto_region 1 with fail
  refine wp_gen (fun W => Cb W r 35 ev ∧ Ext w W) B0.out ?_
  rintro w0 ⟨q_r, q_x⟩
  have Q0 : Hid (∀ s, Ext w0 s → Cb s r 35 ev ∧ Ext w s) := fun s e => ⟨q_r.ext e, q_x.trans e⟩
  clear q_r q_x
  rw [← hr_]
  clear hr_ B0
  go_wp2_with (fail)
  refine (AW.out _).mono ?_
  rintro e u_ ⟨rfl, e1⟩
  have R_ : Cb u_ r 35 ev ∧ Ext w u_ := Q0.out _ e1
  clear Q0 e1 
  generalize u_ = w1 at *
  obtain ⟨q_r, q_x⟩ := R_
  have Q1 : Hid (∀ s, Ext w1 s → Cb s r 35 ev ∧ Ext w s) := fun s e => ⟨q_r.ext e, q_x.trans e⟩
  clear q_r q_x
  have f0 := ((Q1.out _ (Ext.refl _)).1).cell c68.out
  rcases Nat.lt_or_ge 1000 m with hm | hm
  · have u1 : decide ((m : Int) > 1000) = true := decide_eq_true (by omega)
    go_wp2_with fail
    go_ret
    exact ⟨rfl, ((Q1.out _ (Ext.refl _)).2)⟩
  rcases Nat.lt_or_ge 1000 l with hm2 | hm2
  · have u1 : decide ((m : Int) > 1000) = false := decide_eq_false (by omega)
    have u2 : decide ((l : Int) > 1000) = true := decide_eq_true (by omega)
    go_wp2_with fail
    go_ret
    exact ⟨rfl, ((Q1.out _ (Ext.refl _)).2)⟩
  have u1 : decide ((m : Int) > 1000) = false := decide_eq_false (by omega)
  have u2 : decide ((l : Int) > 1000) = false := decide_eq_false (by omega)
  go_wp2_with (((with_reducible refine wpList_load_rowW (o := ⟨some 31, _, _, _, _, _⟩) ?_ 35 _ rfl r ?_ 35 ev.toArray (0, 0) _ ?_ Try.underlying35 ?_ ?_ ?_); (· rfl); (· rfl); (· exact ((Q1.out _ (Ext.refl _)).1)); (· rfl); (· rw [S_ev]; rfl); simp only [Act.put, List.setIfInBounds_toArray, List.set_cons_zero, List.set_cons_succ]))
  refine (EN.out _ ((Q1.out _ (Ext.refl _)).2)).mono ?_
  rintro e u_ ⟨A1, n1, c1, rfl, b1, e1⟩
  have R_ : Bs u_ A1 n1 c1 xb ∧ Cb u_ r 35 ev ∧ Ext w u_ := ⟨b1, Q1.out _ e1⟩
  clear Q1 e1 b1 f0
  generalize u_ = w2 at *
  obtain ⟨q_b, q_r, q_x⟩ := R_
  have Q2 : Hid (∀ s, Ext w2 s → Bs s A1 n1 c1 xb ∧ Cb s r 35 ev ∧ Ext w s) := fun s e => ⟨q_b.ext e, q_r.ext e, q_x.trans e⟩
  clear q_b q_r q_x
  go_wp2_with (fail)
  refine (RH1.out _ _ _ _ ((Q2.out _ (Ext.refl _)).1)).mono ?_
  rintro e u_ ⟨B1, n3, d1, rfl, b1, e1⟩
  obtain ⟨v1, hv1⟩ : ∃ v, v = (evC zf zt zc zk zp zn B1 n3 d1) := ⟨_, rfl⟩
  rw [← hv1]
  have S_v1 : v1.toArray.size = 69 := by rw [List.size_toArray, hv1]; exact (LV1.out _ _ _).1
  have O_v1 : Hid (v1.toArray.all (·.oneCell') = true) := by rw [hv1]; exact (LV1.out _ _ _).2
  replace hv1 := Lib.hid (fun _ : Unit => hv1)
  have a1 : Hid ((u_.alloc (Obj.cells ez.toArray 35)).heap[u_.heap.size]? = some (.cells ez.toArray 35 (0, 0))) := heap_alloc_new _ _
  have E_ : Ext u_ ((u_.alloc (Obj.cells ez.toArray 35)).setRow u_.heap.size v1.toArray) := below_setRow ((Ext.refl u_).alloc _) (Nat.le_refl _) _
  have n_y1 : Bs u_ B1 n3 d1 zw := b1
  replace e1 := Lib.hid e1
  replace n_y1 := Lib.hid n_y1
  go_upto_region 6 with (((with_reducible refine wpList_store_row (o := ⟨none, .store 35 (.tmp 8) (.tmp 38), _, _, _, _⟩) ?_ 35 _ _ rfl u_.heap.size v1.toArray ?_ ?_ 35 ez.toArray ?_ ?_ ?_ ?_ ?_); (· rfl); (· rfl); (· rfl); (· exact a1.out); (· rw [S_v1]; rfl); (· rw [S_v1, S_ez]); (· exact O_v1.out); simp only [Act.put, List.setIfInBounds_toArray, List.set_cons_zero, List.set_cons_succ]))
  obtain ⟨g1, hg_⟩ : ∃ g, g = u_.heap.size := ⟨_, rfl⟩
  refine wp_gen (fun W => Cb W g1 35 v1 ∧ Bs W B1 n3 d1 zw ∧ Bs W A1 n1 c1 xb ∧ Cb W r 35 ev ∧ Ext w W) ⟨by rw [hg_]; exact setRow_heap _ _ _ _ _ _ a1.out, n_y1.out.ext E_, Q2.out _ (e1.out.trans E_)⟩ ?_
  rw [← hg_]
  clear hg_ a1 E_ e1 Q2 n_y1 b1
  rintro w3 ⟨q_g1, q_y1, q_b, q_r, q_x⟩
  have Q3 : Hid (∀ s, Ext w3 s → Cb s g1 35 v1 ∧ Bs s B1 n3 d1 zw ∧ Bs s A1 n1 c1 xb ∧ Cb s r 35 ev ∧ Ext w s) := fun s e => ⟨q_g1.ext e, q_y1.ext e, q_b.ext e, q_r.ext e, q_x.trans e⟩
  clear q_g1 q_y1 q_b q_r q_x
  have CS := SM.out _ _ _ _ ((Q3.out _ (Ext.refl _)).2.1) (BD.out _ ((Q3.out _ (Ext.refl _)).2.2.2.2))
  rw [← hv1.out ()] at CS
  go_wp2_with (first
      | ((with_reducible refine wpList_load_rowW (o := ⟨some 40, _, _, _, _, _⟩) ?_ 35 _ rfl g1 ?_ 35 v1.toArray (0, 0) _ ?_ Try.underlying35 ?_ ?_ ?_); (· rfl); (· rfl); (· exact ((Q3.out _ (Ext.refl _)).1)); (· rfl); (· rw [S_v1]; rfl); simp only [Act.put, List.setIfInBounds_toArray, List.set_cons_zero, List.set_cons_succ])
      | ((with_reducible refine wpList_load_rowW (o := ⟨some 41, _, _, _, _, _⟩) ?_ 35 _ rfl r ?_ 35 ev.toArray (0, 0) _ ?_ Try.underlying35 ?_ ?_ ?_); (· rfl); (· rfl); (· exact ((Q3.out _ (Ext.refl _)).2.2.2.1)); (· rfl); (· rw [S_ev]; rfl); simp only [Act.put, List.setIfInBounds_toArray, List.set_cons_zero, List.set_cons_succ]))
  refine (CS).mono ?_
  rintro e u_ ⟨rfl, e1⟩
  have R_ : Cb u_ g1 35 v1 ∧ Bs u_ B1 n3 d1 zw ∧ Bs u_ A1 n1 c1 xb ∧ Cb u_ r 35 ev ∧ Ext w u_ := Q3.out _ e1
  clear Q3 e1 CS
  generalize u_ = w4 at *
  obtain ⟨q_g1, q_y1, q_b, q_r, q_x⟩ := R_
  have Q4 : Hid (∀ s, Ext w4 s → Cb s g1 35 v1 ∧ Bs s B1 n3 d1 zw ∧ Bs s A1 n1 c1 xb ∧ Cb s r 35 ev ∧ Ext w s) := fun s e => ⟨q_g1.ext e, q_y1.ext e, q_b.ext e, q_r.ext e, q_x.trans e⟩
  clear q_g1 q_y1 q_b q_r q_x
  obtain hg | ⟨hg, hg2, hg3⟩ := CASE1.out
  · subst hg
    go_wp2_with (((with_reducible refine wpList_load_mid (o := ⟨some 55, _, _, _, _, _⟩) (ty := 25) (g := r) (off := 34) (ys := hd) ?_ rfl ?_ ?_ Try.underlying25 ?_ ?_ ?_); (· rfl); (· rfl); (· exact H34.out _ _ _ ((Q4.out _ (Ext.refl _)).2.2.2.1)); (· rfl); (· rw [L_hp]; rfl); simp only [Act.put, List.setIfInBounds_toArray, List.set_cons_zero, List.set_cons_succ]))
    refine (HB.out _).mono ?_
    rintro e u_ ⟨A2, n2, c2, rfl, b2, e1⟩
    have R_ : Bs u_ A2 n2 c2 hb8 ∧ Cb u_ g1 35 v1 ∧ Bs u_ B1 n3 d1 zw ∧ Bs u_ A1 n1 c1 xb ∧ Cb u_ r 35 ev ∧ Ext w u_ := ⟨b2, Q4.out _ e1⟩
    clear Q4 e1 b2
    generalize u_ = w5 at *
    obtain ⟨q_c, q_g1, q_y1, q_b, q_r, q_x⟩ := R_
    have Q5 : Hid (∀ s, Ext w5 s → Bs s A2 n2 c2 hb8 ∧ Cb s g1 35 v1 ∧ Bs s B1 n3 d1 zw ∧ Bs s A1 n1 c1 xb ∧ Cb s r 35 ev ∧ Ext w s) := fun s e => ⟨q_c.ext e, q_g1.ext e, q_y1.ext e, q_b.ext e, q_r.ext e, q_x.trans e⟩
    clear q_c q_g1 q_y1 q_b q_r q_x
    go_wp2_with (fail)
    refine (HR.out _ _ _ _ ((Q5.out _ (Ext.refl _)).1)).mono ?_
    rintro e u_ ⟨rfl, e1⟩
    have a1 : Hid ((u_.alloc (Obj.cells hz.toArray 25)).heap[u_.heap.size]? = some (.cells hz.toArray 25 (0, 0))) := heap_alloc_new _ _
    have E_ : Ext u_ ((u_.alloc (Obj.cells hz.toArray 25)).setRow u_.heap.size hv.toArray) := below_setRow ((Ext.refl u_).alloc _) (Nat.le_refl _) _
    replace e1 := Lib.hid e1
    go_upto_region 11 with (((with_reducible refine wpList_store_row (o := ⟨none, .store 25 (.tmp 13) (.tmp 62), _, _, _, _⟩) ?_ 25 _ _ rfl u_.heap.size hv.toArray ?_ ?_ 25 hz.toArray ?_ ?_ ?_ ?_ ?_); (· rfl); (· rfl); (· rfl); (· exact a1.out); (· rw [S_hv]; rfl); (· rw [S_hv, S_hz]); (· exact O_hv.out); simp only [Act.put, List.setIfInBounds_toArray, List.set_cons_zero, List.set_cons_succ]))
    obtain ⟨g2, hg_⟩ : ∃ g, g = u_.heap.size := ⟨_, rfl⟩
    refine wp_gen (fun W => Cb W g2 25 hv ∧ Bs W A2 n2 c2 hb8 ∧ Cb W g1 35 v1 ∧ Bs W B1 n3 d1 zw ∧ Bs W A1 n1 c1 xb ∧ Cb W r 35 ev ∧ Ext w W) ⟨by rw [hg_]; exact setRow_heap _ _ _ _ _ _ a1.out, Q5.out _ (e1.out.trans E_)⟩ ?_
    rw [← hg_]
    clear hg_ a1 E_ e1 Q5  
    rintro w6 ⟨q_g2, q_c, q_g1, q_y1, q_b, q_r, q_x⟩
    have Q6 : Hid (∀ s, Ext w6 s → Cb s g2 25 hv ∧ Bs s A2 n2 c2 hb8 ∧ Cb s g1 35 v1 ∧ Bs s B1 n3 d1 zw ∧ Bs s A1 n1 c1 xb ∧ Cb s r 35 ev ∧ Ext w s) := fun s e => ⟨q_g2.ext e, q_c.ext e, q_g1.ext e, q_y1.ext e, q_b.ext e, q_r.ext e, q_x.trans e⟩
    clear q_g2 q_c q_g1 q_y1 q_b q_r q_x
    obtain hh | ⟨hh, hh2, hh3⟩ := CASE2.out
    · subst hh
      go_wp2_with (fail)
      refine (RH3.out _ ((Q6.out _ (Ext.refl _)).2.2.2.2.2.2)).mono ?_
      rintro e u_ ⟨B3, n5, d3, rfl, b3, e1⟩
      obtain ⟨v3, hv3⟩ : ∃ v, v = (evC yf yt yc yk yp yn B3 n5 d3) := ⟨_, rfl⟩
      rw [← hv3]
      have S_v3 : v3.toArray.size = 69 := by rw [List.size_toArray, hv3]; exact (LV3.out _ _ _).1
      have O_v3 : Hid (v3.toArray.all (·.oneCell') = true) := by rw [hv3]; exact (LV3.out _ _ _).2
      replace hv3 := Lib.hid (fun _ : Unit => hv3)
      have a1 : Hid ((u_.alloc (Obj.cells ez.toArray 35)).heap[u_.heap.size]? = some (.cells ez.toArray 35 (0, 0))) := heap_alloc_new _ _
      have E_ : Ext u_ ((u_.alloc (Obj.cells ez.toArray 35)).setRow u_.heap.size v3.toArray) := below_setRow ((Ext.refl u_).alloc _) (Nat.le_refl _) _
      have n_y3 : Bs u_ B3 n5 d3 yb := b3
      replace e1 := Lib.hid e1
      replace n_y3 := Lib.hid n_y3
      go_upto_region 14 with (((with_reducible refine wpList_store_row (o := ⟨none, .store 35 (.tmp 15) (.tmp 79), _, _, _, _⟩) ?_ 35 _ _ rfl u_.heap.size v3.toArray ?_ ?_ 35 ez.toArray ?_ ?_ ?_ ?_ ?_); (· rfl); (· rfl); (· rfl); (· exact a1.out); (· rw [S_v3]; rfl); (· rw [S_v3, S_ez]); (· exact O_v3.out); simp only [Act.put, List.setIfInBounds_toArray, List.set_cons_zero, List.set_cons_succ]))
      obtain ⟨g3, hg_⟩ : ∃ g, g = u_.heap.size := ⟨_, rfl⟩
      refine wp_gen (fun W => Cb W g3 35 v3 ∧ Bs W B3 n5 d3 yb ∧ Cb W g2 25 hv ∧ Bs W A2 n2 c2 hb8 ∧ Cb W g1 35 v1 ∧ Bs W B1 n3 d1 zw ∧ Bs W A1 n1 c1 xb ∧ Cb W r 35 ev ∧ Ext w W) ⟨by rw [hg_]; exact setRow_heap _ _ _ _ _ _ a1.out, n_y3.out.ext E_, Q6.out _ (e1.out.trans E_)⟩ ?_
      rw [← hg_]
      clear hg_ a1 E_ e1 Q6 n_y3 b3
      rintro w7 ⟨q_g3, q_y3, q_g2, q_c, q_g1, q_y1, q_b, q_r, q_x⟩
      have Q7 : Hid (∀ s, Ext w7 s → Cb s g3 35 v3 ∧ Bs s B3 n5 d3 yb ∧ Cb s g2 25 hv ∧ Bs s A2 n2 c2 hb8 ∧ Cb s g1 35 v1 ∧ Bs s B1 n3 d1 zw ∧ Bs s A1 n1 c1 xb ∧ Cb s r 35 ev ∧ Ext w s) := fun s e => ⟨q_g3.ext e, q_y3.ext e, q_g2.ext e, q_c.ext e, q_g1.ext e, q_y1.ext e, q_b.ext e, q_r.ext e, q_x.trans e⟩
      clear q_g3 q_y3 q_g2 q_c q_g1 q_y1 q_b q_r q_x
      have CS := HN3.out _ _ _ _ ((Q7.out _ (Ext.refl _)).2.1)
      rw [← hv3.out ()] at CS
      go_wp2_with (((with_reducible refine wpList_load_rowW (o := ⟨some 82, _, _, _, _, _⟩) ?_ 35 _ rfl g3 ?_ 35 v3.toArray (0, 0) _ ?_ Try.underlying35 ?_ ?_ ?_); (· rfl); (· rfl); (· exact ((Q7.out _ (Ext.refl _)).1)); (· rfl); (· rw [S_v3]; rfl); simp only [Act.put, List.setIfInBounds_toArray, List.set_cons_zero, List.set_cons_succ]))
      refine (CS).mono ?_
      rintro e u_ ⟨A4, n4, c4, rfl, b4, e1⟩
      have R_ : Bs u_ A4 n4 c4 zb ∧ Cb u_ g3 35 v3 ∧ Bs u_ B3 n5 d3 yb ∧ Cb u_ g2 25 hv ∧ Bs u_ A2 n2 c2 hb8 ∧ Cb u_ g1 35 v1 ∧ Bs u_ B1 n3 d1 zw ∧ Bs u_ A1 n1 c1 xb ∧ Cb u_ r 35 ev ∧ Ext w u_ := ⟨b4, Q7.out _ e1⟩
      clear Q7 e1 CS b4
      generalize u_ = w8 at *
      obtain ⟨q_e, q_g3, q_y3, q_g2, q_c, q_g1, q_y1, q_b, q_r, q_x⟩ := R_
      have Q8 : Hid (∀ s, Ext w8 s → Bs s A4 n4 c4 zb ∧ Cb s g3 35 v3 ∧ Bs s B3 n5 d3 yb ∧ Cb s g2 25 hv ∧ Bs s A2 n2 c2 hb8 ∧ Cb s g1 35 v1 ∧ Bs s B1 n3 d1 zw ∧ Bs s A1 n1 c1 xb ∧ Cb s r 35 ev ∧ Ext w s) := fun s e => ⟨q_e.ext e, q_g3.ext e, q_y3.ext e, q_g2.ext e, q_c.ext e, q_g1.ext e, q_y1.ext e, q_b.ext e, q_r.ext e, q_x.trans e⟩
      clear q_e q_g3 q_y3 q_g2 q_c q_g1 q_y1 q_b q_r q_x
      obtain hk3 | hk3 | ⟨hk3, hk4, hk5⟩ := CASE3.out
      · subst hk3
        go_wp2_with fail
        go_ret
        exact ⟨rfl, ((Q8.out _ (Ext.refl _)).2.2.2.2.2.2.2.2.2)⟩
      · subst hk3
        go_wp2_with fail
        go_ret
        exact ⟨rfl, ((Q8.out _ (Ext.refl _)).2.2.2.2.2.2.2.2.2)⟩
      · subst hk3 hk4 hk5
        have u5 := CV.out _ _ _ _ _ ((Q8.out _ (Ext.refl _)).1)
        have u6 := CV.out _ _ _ _ _ (BX.out _ ((Q8.out _ (Ext.refl _)).2.2.2.2.2.2.2.2.2))
        have u7 := es.out
        go_wp2_with fail
        go_ret
        exact ⟨rfl, ((Q8.out _ (Ext.refl _)).2.2.2.2.2.2.2.2.2)⟩
    
    · subst hh hh2 hh3
      go_wp2_with (first
          | ((with_reducible refine wpList_load_mid (o := ⟨some 72, _, _, _, _, _⟩) (ty := 25) (g := r) (off := 34) (ys := hv) ?_ rfl ?_ ?_ Try.underlying25 ?_ ?_ ?_); (· rfl); (· rfl); (· exact H34.out _ _ _ ((Q6.out _ (Ext.refl _)).2.2.2.2.2.1)); (· rfl); (· rw [L_hp]; rfl); simp only [Act.put, List.setIfInBounds_toArray, List.set_cons_zero, List.set_cons_succ])
          | ((with_reducible refine wpList_load_rowW (o := ⟨some 70, _, _, _, _, _⟩) ?_ 25 _ rfl g2 ?_ 25 hv.toArray (0, 0) _ ?_ Try.underlying25 ?_ ?_ ?_); (· rfl); (· rfl); (· exact ((Q6.out _ (Ext.refl _)).1)); (· rfl); (· rw [S_hv]; rfl); simp only [Act.put, List.setIfInBounds_toArray, List.set_cons_zero, List.set_cons_succ])
          | ((with_reducible refine wpList_neq_headB (o := ⟨some 73, _, _, _, _, _⟩) ?_ _ _ _ rfl SH.out (hhd.out ()) (hhd.out ()) ?_ ?_ hk hk ?_); (· rfl); (· rfl); (· rfl); simp only [Act.put, List.setIfInBounds_toArray, List.set_cons_zero, List.set_cons_succ]))
      refine (RH3.out _ ((Q6.out _ (Ext.refl _)).2.2.2.2.2.2)).mono ?_
      rintro e u_ ⟨B3, n5, d3, rfl, b3, e1⟩
      obtain ⟨v3, hv3⟩ : ∃ v, v = (evC yf yt yc yk yp yn B3 n5 d3) := ⟨_, rfl⟩
      rw [← hv3]
      have S_v3 : v3.toArray.size = 69 := by rw [List.size_toArray, hv3]; exact (LV3.out _ _ _).1
      have O_v3 : Hid (v3.toArray.all (·.oneCell') = true) := by rw [hv3]; exact (LV3.out _ _ _).2
      replace hv3 := Lib.hid (fun _ : Unit => hv3)
      have a1 : Hid ((u_.alloc (Obj.cells ez.toArray 35)).heap[u_.heap.size]? = some (.cells ez.toArray 35 (0, 0))) := heap_alloc_new _ _
      have E_ : Ext u_ ((u_.alloc (Obj.cells ez.toArray 35)).setRow u_.heap.size v3.toArray) := below_setRow ((Ext.refl u_).alloc _) (Nat.le_refl _) _
      have n_y3 : Bs u_ B3 n5 d3 yb := b3
      replace e1 := Lib.hid e1
      replace n_y3 := Lib.hid n_y3
      go_upto_region 14 with (((with_reducible refine wpList_store_row (o := ⟨none, .store 35 (.tmp 15) (.tmp 79), _, _, _, _⟩) ?_ 35 _ _ rfl u_.heap.size v3.toArray ?_ ?_ 35 ez.toArray ?_ ?_ ?_ ?_ ?_); (· rfl); (· rfl); (· rfl); (· exact a1.out); (· rw [S_v3]; rfl); (· rw [S_v3, S_ez]); (· exact O_v3.out); simp only [Act.put, List.setIfInBounds_toArray, List.set_cons_zero, List.set_cons_succ]))
      obtain ⟨g3, hg_⟩ : ∃ g, g = u_.heap.size := ⟨_, rfl⟩
      refine wp_gen (fun W => Cb W g3 35 v3 ∧ Bs W B3 n5 d3 yb ∧ Cb W g2 25 hv ∧ Bs W A2 n2 c2 hb8 ∧ Cb W g1 35 v1 ∧ Bs W B1 n3 d1 zw ∧ Bs W A1 n1 c1 xb ∧ Cb W r 35 ev ∧ Ext w W) ⟨by rw [hg_]; exact setRow_heap _ _ _ _ _ _ a1.out, n_y3.out.ext E_, Q6.out _ (e1.out.trans E_)⟩ ?_
      rw [← hg_]
      clear hg_ a1 E_ e1 Q6 n_y3 b3
      rintro w7 ⟨q_g3, q_y3, q_g2, q_c, q_g1, q_y1, q_b, q_r, q_x⟩
      have Q7 : Hid (∀ s, Ext w7 s → Cb s g3 35 v3 ∧ Bs s B3 n5 d3 yb ∧ Cb s g2 25 hv ∧ Bs s A2 n2 c2 hb8 ∧ Cb s g1 35 v1 ∧ Bs s B1 n3 d1 zw ∧ Bs s A1 n1 c1 xb ∧ Cb s r 35 ev ∧ Ext w s) := fun s e => ⟨q_g3.ext e, q_y3.ext e, q_g2.ext e, q_c.ext e, q_g1.ext e, q_y1.ext e, q_b.ext e, q_r.ext e, q_x.trans e⟩
      clear q_g3 q_y3 q_g2 q_c q_g1 q_y1 q_b q_r q_x
      have CS := HN3.out _ _ _ _ ((Q7.out _ (Ext.refl _)).2.1)
      rw [← hv3.out ()] at CS
      go_wp2_with (((with_reducible refine wpList_load_rowW (o := ⟨some 82, _, _, _, _, _⟩) ?_ 35 _ rfl g3 ?_ 35 v3.toArray (0, 0) _ ?_ Try.underlying35 ?_ ?_ ?_); (· rfl); (· rfl); (· exact ((Q7.out _ (Ext.refl _)).1)); (· rfl); (· rw [S_v3]; rfl); simp only [Act.put, List.setIfInBounds_toArray, List.set_cons_zero, List.set_cons_succ]))
      refine (CS).mono ?_
      rintro e u_ ⟨A4, n4, c4, rfl, b4, e1⟩
      have R_ : Bs u_ A4 n4 c4 zb ∧ Cb u_ g3 35 v3 ∧ Bs u_ B3 n5 d3 yb ∧ Cb u_ g2 25 hv ∧ Bs u_ A2 n2 c2 hb8 ∧ Cb u_ g1 35 v1 ∧ Bs u_ B1 n3 d1 zw ∧ Bs u_ A1 n1 c1 xb ∧ Cb u_ r 35 ev ∧ Ext w u_ := ⟨b4, Q7.out _ e1⟩
      clear Q7 e1 CS b4
      generalize u_ = w8 at *
      obtain ⟨q_e, q_g3, q_y3, q_g2, q_c, q_g1, q_y1, q_b, q_r, q_x⟩ := R_
      have Q8 : Hid (∀ s, Ext w8 s → Bs s A4 n4 c4 zb ∧ Cb s g3 35 v3 ∧ Bs s B3 n5 d3 yb ∧ Cb s g2 25 hv ∧ Bs s A2 n2 c2 hb8 ∧ Cb s g1 35 v1 ∧ Bs s B1 n3 d1 zw ∧ Bs s A1 n1 c1 xb ∧ Cb s r 35 ev ∧ Ext w s) := fun s e => ⟨q_e.ext e, q_g3.ext e, q_y3.ext e, q_g2.ext e, q_c.ext e, q_g1.ext e, q_y1.ext e, q_b.ext e, q_r.ext e, q_x.trans e⟩
      clear q_e q_g3 q_y3 q_g2 q_c q_g1 q_y1 q_b q_r q_x
      obtain hk3 | hk3 | ⟨hk3, hk4, hk5⟩ := CASE3.out
      · subst hk3
        go_wp2_with fail
        go_ret
        exact ⟨rfl, ((Q8.out _ (Ext.refl _)).2.2.2.2.2.2.2.2.2)⟩
      · subst hk3
        go_wp2_with fail
        go_ret
        exact ⟨rfl, ((Q8.out _ (Ext.refl _)).2.2.2.2.2.2.2.2.2)⟩
      · subst hk3 hk4 hk5
        have u5 := CV.out _ _ _ _ _ ((Q8.out _ (Ext.refl _)).1)
        have u6 := CV.out _ _ _ _ _ (BX.out _ ((Q8.out _ (Ext.refl _)).2.2.2.2.2.2.2.2.2))
        have u7 := es.out
        go_wp2_with fail
        go_ret
        exact ⟨rfl, ((Q8.out _ (Ext.refl _)).2.2.2.2.2.2.2.2.2)⟩
    
  
  · subst hg hg2 hg3
    go_wp2_with (((with_reducible refine wpList_load_mid (o := ⟨some 55, _, _, _, _, _⟩) (ty := 25) (g := r) (off := 34) (ys := hd) ?_ rfl ?_ ?_ Try.underlying25 ?_ ?_ ?_); (· rfl); (· rfl); (· exact H34.out _ _ _ ((Q4.out _ (Ext.refl _)).2.2.2.1)); (· rfl); (· rw [L_hp]; rfl); simp only [Act.put, List.setIfInBounds_toArray, List.set_cons_zero, List.set_cons_succ]))
    refine (HB.out _).mono ?_
    rintro e u_ ⟨A2, n2, c2, rfl, b2, e1⟩
    have R_ : Bs u_ A2 n2 c2 hb8 ∧ Cb u_ g1 35 v1 ∧ Bs u_ B1 n3 d1 zw ∧ Bs u_ A1 n1 c1 xb ∧ Cb u_ r 35 ev ∧ Ext w u_ := ⟨b2, Q4.out _ e1⟩
    clear Q4 e1 b2
    generalize u_ = w5 at *
    obtain ⟨q_c, q_g1, q_y1, q_b, q_r, q_x⟩ := R_
    have Q5 : Hid (∀ s, Ext w5 s → Bs s A2 n2 c2 hb8 ∧ Cb s g1 35 v1 ∧ Bs s B1 n3 d1 zw ∧ Bs s A1 n1 c1 xb ∧ Cb s r 35 ev ∧ Ext w s) := fun s e => ⟨q_c.ext e, q_g1.ext e, q_y1.ext e, q_b.ext e, q_r.ext e, q_x.trans e⟩
    clear q_c q_g1 q_y1 q_b q_r q_x
    go_wp2_with (fail)
    refine (HR.out _ _ _ _ ((Q5.out _ (Ext.refl _)).1)).mono ?_
    rintro e u_ ⟨rfl, e1⟩
    have a1 : Hid ((u_.alloc (Obj.cells hz.toArray 25)).heap[u_.heap.size]? = some (.cells hz.toArray 25 (0, 0))) := heap_alloc_new _ _
    have E_ : Ext u_ ((u_.alloc (Obj.cells hz.toArray 25)).setRow u_.heap.size hv.toArray) := below_setRow ((Ext.refl u_).alloc _) (Nat.le_refl _) _
    replace e1 := Lib.hid e1
    go_upto_region 11 with (((with_reducible refine wpList_store_row (o := ⟨none, .store 25 (.tmp 13) (.tmp 62), _, _, _, _⟩) ?_ 25 _ _ rfl u_.heap.size hv.toArray ?_ ?_ 25 hz.toArray ?_ ?_ ?_ ?_ ?_); (· rfl); (· rfl); (· rfl); (· exact a1.out); (· rw [S_hv]; rfl); (· rw [S_hv, S_hz]); (· exact O_hv.out); simp only [Act.put, List.setIfInBounds_toArray, List.set_cons_zero, List.set_cons_succ]))
    obtain ⟨g2, hg_⟩ : ∃ g, g = u_.heap.size := ⟨_, rfl⟩
    refine wp_gen (fun W => Cb W g2 25 hv ∧ Bs W A2 n2 c2 hb8 ∧ Cb W g1 35 v1 ∧ Bs W B1 n3 d1 zw ∧ Bs W A1 n1 c1 xb ∧ Cb W r 35 ev ∧ Ext w W) ⟨by rw [hg_]; exact setRow_heap _ _ _ _ _ _ a1.out, Q5.out _ (e1.out.trans E_)⟩ ?_
    rw [← hg_]
    clear hg_ a1 E_ e1 Q5  
    rintro w6 ⟨q_g2, q_c, q_g1, q_y1, q_b, q_r, q_x⟩
    have Q6 : Hid (∀ s, Ext w6 s → Cb s g2 25 hv ∧ Bs s A2 n2 c2 hb8 ∧ Cb s g1 35 v1 ∧ Bs s B1 n3 d1 zw ∧ Bs s A1 n1 c1 xb ∧ Cb s r 35 ev ∧ Ext w s) := fun s e => ⟨q_g2.ext e, q_c.ext e, q_g1.ext e, q_y1.ext e, q_b.ext e, q_r.ext e, q_x.trans e⟩
    clear q_g2 q_c q_g1 q_y1 q_b q_r q_x
    obtain hh | ⟨hh, hh2, hh3⟩ := CASE2.out
    · subst hh
      go_wp2_with (fail)
      refine (RH3.out _ ((Q6.out _ (Ext.refl _)).2.2.2.2.2.2)).mono ?_
      rintro e u_ ⟨B3, n5, d3, rfl, b3, e1⟩
      obtain ⟨v3, hv3⟩ : ∃ v, v = (evC yf yt yc yk yp yn B3 n5 d3) := ⟨_, rfl⟩
      rw [← hv3]
      have S_v3 : v3.toArray.size = 69 := by rw [List.size_toArray, hv3]; exact (LV3.out _ _ _).1
      have O_v3 : Hid (v3.toArray.all (·.oneCell') = true) := by rw [hv3]; exact (LV3.out _ _ _).2
      replace hv3 := Lib.hid (fun _ : Unit => hv3)
      have a1 : Hid ((u_.alloc (Obj.cells ez.toArray 35)).heap[u_.heap.size]? = some (.cells ez.toArray 35 (0, 0))) := heap_alloc_new _ _
      have E_ : Ext u_ ((u_.alloc (Obj.cells ez.toArray 35)).setRow u_.heap.size v3.toArray) := below_setRow ((Ext.refl u_).alloc _) (Nat.le_refl _) _
      have n_y3 : Bs u_ B3 n5 d3 yb := b3
      replace e1 := Lib.hid e1
      replace n_y3 := Lib.hid n_y3
      go_upto_region 14 with (((with_reducible refine wpList_store_row (o := ⟨none, .store 35 (.tmp 15) (.tmp 79), _, _, _, _⟩) ?_ 35 _ _ rfl u_.heap.size v3.toArray ?_ ?_ 35 ez.toArray ?_ ?_ ?_ ?_ ?_); (· rfl); (· rfl); (· rfl); (· exact a1.out); (· rw [S_v3]; rfl); (· rw [S_v3, S_ez]); (· exact O_v3.out); simp only [Act.put, List.setIfInBounds_toArray, List.set_cons_zero, List.set_cons_succ]))
      obtain ⟨g3, hg_⟩ : ∃ g, g = u_.heap.size := ⟨_, rfl⟩
      refine wp_gen (fun W => Cb W g3 35 v3 ∧ Bs W B3 n5 d3 yb ∧ Cb W g2 25 hv ∧ Bs W A2 n2 c2 hb8 ∧ Cb W g1 35 v1 ∧ Bs W B1 n3 d1 zw ∧ Bs W A1 n1 c1 xb ∧ Cb W r 35 ev ∧ Ext w W) ⟨by rw [hg_]; exact setRow_heap _ _ _ _ _ _ a1.out, n_y3.out.ext E_, Q6.out _ (e1.out.trans E_)⟩ ?_
      rw [← hg_]
      clear hg_ a1 E_ e1 Q6 n_y3 b3
      rintro w7 ⟨q_g3, q_y3, q_g2, q_c, q_g1, q_y1, q_b, q_r, q_x⟩
      have Q7 : Hid (∀ s, Ext w7 s → Cb s g3 35 v3 ∧ Bs s B3 n5 d3 yb ∧ Cb s g2 25 hv ∧ Bs s A2 n2 c2 hb8 ∧ Cb s g1 35 v1 ∧ Bs s B1 n3 d1 zw ∧ Bs s A1 n1 c1 xb ∧ Cb s r 35 ev ∧ Ext w s) := fun s e => ⟨q_g3.ext e, q_y3.ext e, q_g2.ext e, q_c.ext e, q_g1.ext e, q_y1.ext e, q_b.ext e, q_r.ext e, q_x.trans e⟩
      clear q_g3 q_y3 q_g2 q_c q_g1 q_y1 q_b q_r q_x
      have CS := HN3.out _ _ _ _ ((Q7.out _ (Ext.refl _)).2.1)
      rw [← hv3.out ()] at CS
      go_wp2_with (((with_reducible refine wpList_load_rowW (o := ⟨some 82, _, _, _, _, _⟩) ?_ 35 _ rfl g3 ?_ 35 v3.toArray (0, 0) _ ?_ Try.underlying35 ?_ ?_ ?_); (· rfl); (· rfl); (· exact ((Q7.out _ (Ext.refl _)).1)); (· rfl); (· rw [S_v3]; rfl); simp only [Act.put, List.setIfInBounds_toArray, List.set_cons_zero, List.set_cons_succ]))
      refine (CS).mono ?_
      rintro e u_ ⟨A4, n4, c4, rfl, b4, e1⟩
      have R_ : Bs u_ A4 n4 c4 zb ∧ Cb u_ g3 35 v3 ∧ Bs u_ B3 n5 d3 yb ∧ Cb u_ g2 25 hv ∧ Bs u_ A2 n2 c2 hb8 ∧ Cb u_ g1 35 v1 ∧ Bs u_ B1 n3 d1 zw ∧ Bs u_ A1 n1 c1 xb ∧ Cb u_ r 35 ev ∧ Ext w u_ := ⟨b4, Q7.out _ e1⟩
      clear Q7 e1 CS b4
      generalize u_ = w8 at *
      obtain ⟨q_e, q_g3, q_y3, q_g2, q_c, q_g1, q_y1, q_b, q_r, q_x⟩ := R_
      have Q8 : Hid (∀ s, Ext w8 s → Bs s A4 n4 c4 zb ∧ Cb s g3 35 v3 ∧ Bs s B3 n5 d3 yb ∧ Cb s g2 25 hv ∧ Bs s A2 n2 c2 hb8 ∧ Cb s g1 35 v1 ∧ Bs s B1 n3 d1 zw ∧ Bs s A1 n1 c1 xb ∧ Cb s r 35 ev ∧ Ext w s) := fun s e => ⟨q_e.ext e, q_g3.ext e, q_y3.ext e, q_g2.ext e, q_c.ext e, q_g1.ext e, q_y1.ext e, q_b.ext e, q_r.ext e, q_x.trans e⟩
      clear q_e q_g3 q_y3 q_g2 q_c q_g1 q_y1 q_b q_r q_x
      obtain hk3 | hk3 | ⟨hk3, hk4, hk5⟩ := CASE3.out
      · subst hk3
        go_wp2_with fail
        go_ret
        exact ⟨rfl, ((Q8.out _ (Ext.refl _)).2.2.2.2.2.2.2.2.2)⟩
      · subst hk3
        go_wp2_with fail
        go_ret
        exact ⟨rfl, ((Q8.out _ (Ext.refl _)).2.2.2.2.2.2.2.2.2)⟩
      · subst hk3 hk4 hk5
        have u5 := CV.out _ _ _ _ _ ((Q8.out _ (Ext.refl _)).1)
        have u6 := CV.out _ _ _ _ _ (BX.out _ ((Q8.out _ (Ext.refl _)).2.2.2.2.2.2.2.2.2))
        have u7 := es.out
        go_wp2_with fail
        go_ret
        exact ⟨rfl, ((Q8.out _ (Ext.refl _)).2.2.2.2.2.2.2.2.2)⟩
    
    · subst hh hh2 hh3
      go_wp2_with (first
          | ((with_reducible refine wpList_load_mid (o := ⟨some 72, _, _, _, _, _⟩) (ty := 25) (g := r) (off := 34) (ys := hv) ?_ rfl ?_ ?_ Try.underlying25 ?_ ?_ ?_); (· rfl); (· rfl); (· exact H34.out _ _ _ ((Q6.out _ (Ext.refl _)).2.2.2.2.2.1)); (· rfl); (· rw [L_hp]; rfl); simp only [Act.put, List.setIfInBounds_toArray, List.set_cons_zero, List.set_cons_succ])
          | ((with_reducible refine wpList_load_rowW (o := ⟨some 70, _, _, _, _, _⟩) ?_ 25 _ rfl g2 ?_ 25 hv.toArray (0, 0) _ ?_ Try.underlying25 ?_ ?_ ?_); (· rfl); (· rfl); (· exact ((Q6.out _ (Ext.refl _)).1)); (· rfl); (· rw [S_hv]; rfl); simp only [Act.put, List.setIfInBounds_toArray, List.set_cons_zero, List.set_cons_succ])
          | ((with_reducible refine wpList_neq_headB (o := ⟨some 73, _, _, _, _, _⟩) ?_ _ _ _ rfl SH.out (hhd.out ()) (hhd.out ()) ?_ ?_ hk hk ?_); (· rfl); (· rfl); (· rfl); simp only [Act.put, List.setIfInBounds_toArray, List.set_cons_zero, List.set_cons_succ]))
      refine (RH3.out _ ((Q6.out _ (Ext.refl _)).2.2.2.2.2.2)).mono ?_
      rintro e u_ ⟨B3, n5, d3, rfl, b3, e1⟩
      obtain ⟨v3, hv3⟩ : ∃ v, v = (evC yf yt yc yk yp yn B3 n5 d3) := ⟨_, rfl⟩
      rw [← hv3]
      have S_v3 : v3.toArray.size = 69 := by rw [List.size_toArray, hv3]; exact (LV3.out _ _ _).1
      have O_v3 : Hid (v3.toArray.all (·.oneCell') = true) := by rw [hv3]; exact (LV3.out _ _ _).2
      replace hv3 := Lib.hid (fun _ : Unit => hv3)
      have a1 : Hid ((u_.alloc (Obj.cells ez.toArray 35)).heap[u_.heap.size]? = some (.cells ez.toArray 35 (0, 0))) := heap_alloc_new _ _
      have E_ : Ext u_ ((u_.alloc (Obj.cells ez.toArray 35)).setRow u_.heap.size v3.toArray) := below_setRow ((Ext.refl u_).alloc _) (Nat.le_refl _) _
      have n_y3 : Bs u_ B3 n5 d3 yb := b3
      replace e1 := Lib.hid e1
      replace n_y3 := Lib.hid n_y3
      go_upto_region 14 with (((with_reducible refine wpList_store_row (o := ⟨none, .store 35 (.tmp 15) (.tmp 79), _, _, _, _⟩) ?_ 35 _ _ rfl u_.heap.size v3.toArray ?_ ?_ 35 ez.toArray ?_ ?_ ?_ ?_ ?_); (· rfl); (· rfl); (· rfl); (· exact a1.out); (· rw [S_v3]; rfl); (· rw [S_v3, S_ez]); (· exact O_v3.out); simp only [Act.put, List.setIfInBounds_toArray, List.set_cons_zero, List.set_cons_succ]))
      obtain ⟨g3, hg_⟩ : ∃ g, g = u_.heap.size := ⟨_, rfl⟩
      refine wp_gen (fun W => Cb W g3 35 v3 ∧ Bs W B3 n5 d3 yb ∧ Cb W g2 25 hv ∧ Bs W A2 n2 c2 hb8 ∧ Cb W g1 35 v1 ∧ Bs W B1 n3 d1 zw ∧ Bs W A1 n1 c1 xb ∧ Cb W r 35 ev ∧ Ext w W) ⟨by rw [hg_]; exact setRow_heap _ _ _ _ _ _ a1.out, n_y3.out.ext E_, Q6.out _ (e1.out.trans E_)⟩ ?_
      rw [← hg_]
      clear hg_ a1 E_ e1 Q6 n_y3 b3
      rintro w7 ⟨q_g3, q_y3, q_g2, q_c, q_g1, q_y1, q_b, q_r, q_x⟩
      have Q7 : Hid (∀ s, Ext w7 s → Cb s g3 35 v3 ∧ Bs s B3 n5 d3 yb ∧ Cb s g2 25 hv ∧ Bs s A2 n2 c2 hb8 ∧ Cb s g1 35 v1 ∧ Bs s B1 n3 d1 zw ∧ Bs s A1 n1 c1 xb ∧ Cb s r 35 ev ∧ Ext w s) := fun s e => ⟨q_g3.ext e, q_y3.ext e, q_g2.ext e, q_c.ext e, q_g1.ext e, q_y1.ext e, q_b.ext e, q_r.ext e, q_x.trans e⟩
      clear q_g3 q_y3 q_g2 q_c q_g1 q_y1 q_b q_r q_x
      have CS := HN3.out _ _ _ _ ((Q7.out _ (Ext.refl _)).2.1)
      rw [← hv3.out ()] at CS
      go_wp2_with (((with_reducible refine wpList_load_rowW (o := ⟨some 82, _, _, _, _, _⟩) ?_ 35 _ rfl g3 ?_ 35 v3.toArray (0, 0) _ ?_ Try.underlying35 ?_ ?_ ?_); (· rfl); (· rfl); (· exact ((Q7.out _ (Ext.refl _)).1)); (· rfl); (· rw [S_v3]; rfl); simp only [Act.put, List.setIfInBounds_toArray, List.set_cons_zero, List.set_cons_succ]))
      refine (CS).mono ?_
      rintro e u_ ⟨A4, n4, c4, rfl, b4, e1⟩
      have R_ : Bs u_ A4 n4 c4 zb ∧ Cb u_ g3 35 v3 ∧ Bs u_ B3 n5 d3 yb ∧ Cb u_ g2 25 hv ∧ Bs u_ A2 n2 c2 hb8 ∧ Cb u_ g1 35 v1 ∧ Bs u_ B1 n3 d1 zw ∧ Bs u_ A1 n1 c1 xb ∧ Cb u_ r 35 ev ∧ Ext w u_ := ⟨b4, Q7.out _ e1⟩
      clear Q7 e1 CS b4
      generalize u_ = w8 at *
      obtain ⟨q_e, q_g3, q_y3, q_g2, q_c, q_g1, q_y1, q_b, q_r, q_x⟩ := R_
      have Q8 : Hid (∀ s, Ext w8 s → Bs s A4 n4 c4 zb ∧ Cb s g3 35 v3 ∧ Bs s B3 n5 d3 yb ∧ Cb s g2 25 hv ∧ Bs s A2 n2 c2 hb8 ∧ Cb s g1 35 v1 ∧ Bs s B1 n3 d1 zw ∧ Bs s A1 n1 c1 xb ∧ Cb s r 35 ev ∧ Ext w s) := fun s e => ⟨q_e.ext e, q_g3.ext e, q_y3.ext e, q_g2.ext e, q_c.ext e, q_g1.ext e, q_y1.ext e, q_b.ext e, q_r.ext e, q_x.trans e⟩
      clear q_e q_g3 q_y3 q_g2 q_c q_g1 q_y1 q_b q_r q_x
      obtain hk3 | hk3 | ⟨hk3, hk4, hk5⟩ := CASE3.out
      · subst hk3
        go_wp2_with fail
        go_ret
        exact ⟨rfl, ((Q8.out _ (Ext.refl _)).2.2.2.2.2.2.2.2.2)⟩
      · subst hk3
        go_wp2_with fail
        go_ret
        exact ⟨rfl, ((Q8.out _ (Ext.refl _)).2.2.2.2.2.2.2.2.2)⟩
      · subst hk3 hk4 hk5
        have u5 := CV.out _ _ _ _ _ ((Q8.out _ (Ext.refl _)).1)
        have u6 := CV.out _ _ _ _ _ (BX.out _ ((Q8.out _ (Ext.refl _)).2.2.2.2.2.2.2.2.2))
        have u7 := es.out
        go_wp2_with fail
        go_ret
        exact ⟨rfl, ((Q8.out _ (Ext.refl _)).2.2.2.2.2.2.2.2.2)⟩
    
  
end Go.Proofs.Ytojgmgghlkpfoaa
