/-
  The law HeadCut.
-/
import Derived.Test.YtojgmgghlkpfoaaEnv12
import Derived.Test.YtojgmgghlkpfoaaOwn
import Derived.Test.YtojgmgghlkpfoaaOne8
namespace Go.Proofs.Ytojgmgghlkpfoaa
open Go.ChangeShapes Go.WideShapes Go.ChangeAt Go.RowKit Go.Deep
set_option maxRecDepth 100000

set_option maxHeartbeats 16000000 in
theorem headCut_calls {w : World} {f t p n : Int} {cm pk body : List UInt8} {A : Option Addr} {m c : Nat} {cut : Int} (hc : cm.length = 32) (hk : pk.length = 32) (hb : Bs w A m c body) (h1 : -9223372036854775808 ≤ cut) (h2 : cut ≤ 9223372036854775807) :
    Calls Try.prog 6 #[.agg (evC f t cm pk p n A m c).toArray, .int .i64 cut] w fun e w' => e = .returned (.bool true) ∧ Ext w w' := by
  have AW := Lib.hid (fun (W : World) => awake12_calls (w := W))
  have EN := Lib.hid (fun (W : World) (e : Ext w W) => henv_calls (f := f) (t := t) (p := p) (n := n) hc hk (hb.ext e))
  have CV : Hid (∀ (W : World) A n c (ys : List UInt8), Bs W A n c ys → (convert 26 9 (.slice A n c)).run Try.prog W = .ok (.string (strL ys)) W) := fun W A n c ys h => conv_bs h
  have BD : Hid (∀ s, Ext w s → Bs s A m c body) := fun s e => hb.ext e
  have lm := hb.len
  have hle := hb.le
  have hcap := hb.cap
  have hal := env_alloc
  have L_ez := evz_len
  obtain ⟨c0, c1, c68, ch, c5⟩ := ev_cells hc hk f t p n A m c
  replace c0 := Lib.hid c0
  replace c1 := Lib.hid c1
  replace c68 := Lib.hid c68
  have l34 : ([Value.int .i64 f, .int .i64 t] ++ cellsOf cm).length = 34 := by simp [cellsOf_len, hc]
  have H34 : Hid (∀ (W : World) (g : Nat) T, Cb W g T (evC f t cm pk p n A m c) → ∀ j v, (hdC pk p n)[j]? = some v → W.cell? ⟨g, 34 + j, none⟩ = some v) := fun W g T k => k.mid ch l34
  clear ch c5 l34
  have L_hp := hdC_len hk p n
  have L_ev := evC_len hc hk f t p n A m c
  have RH := Lib.hid (fun (W : World) A n d (xs : List UInt8) (h : Bs W A n d xs) => hreadE_calls h)
  have LV : Hid (∀ (xs : List UInt8) A m c, (evC (rF xs) (rT xs) (rC xs) (rK xs) (rP xs) (rN xs) A m c).length = 69 ∧ (evC (rF xs) (rT xs) (rC xs) (rK xs) (rP xs) (rN xs) A m c).toArray.all (·.oneCell') = true) := fun xs A m c => ⟨evC_len (rCK_len xs).1 (rCK_len xs).2 _ _ _ _ _ _ _, ev_one⟩
  have BK := Lib.hid (fun (h : okE f t p n body.length = true) => env_back (f := f) (t := t) (p := p) (n := n) (body := body) hc hk h)
  have E0 : Hid (okE f t p n m = false → enE f t p n m = 1 ∧ enX f t cm pk p n body = []) := fun h => by
    unfold enE enX
    rw [lm, h]
    exact ⟨rfl, rfl⟩
  have E1 : Hid (okE f t p n m = true → enE f t p n m = 0) := fun h => by
    unfold enE
    rw [h]
    rfl
  rw [lm] at BK
  generalize enX f t cm pk p n body = xb at *
  generalize enE f t p n m = xe at *
  generalize okE f t p n m = ok at *
  clear hb
  obtain ⟨ez, hez⟩ : ∃ ez, ez = evz := ⟨_, rfl⟩
  rw [← hez] at hal L_ez
  clear hez
  have S_ez : ez.toArray.size = 69 := by rw [List.size_toArray, L_ez]
  obtain ⟨ev, hev⟩ : ∃ ev, ev = evC f t cm pk p n A m c := ⟨_, rfl⟩
  rw [← hev] at EN L_ev c0 c1 c68 H34 ⊢
  have S_ev : ev.toArray.size = 69 := by rw [List.size_toArray, L_ev]
  obtain ⟨r, hr_⟩ : ∃ r, r = w.heap.size := ⟨_, rfl⟩
  have B0 : Hid (Cb (w.alloc (Obj.cells ev.toArray 35)) r 35 ev ∧ Ext w (w.alloc (Obj.cells ev.toArray 35))) := by rw [hr_]; exact ⟨Cb.new _ _ _, (Ext.refl w).alloc _⟩
  replace hev := Lib.hid (fun _ : Unit => hev)
  go_enter Try.func6, Try.ntmps6
  go_upto_region 1 with fail
  refine wp_gen (fun W => Cb W r 35 ev ∧ Ext w W) B0.out ?_
  rintro w0 ⟨q_r, q_x⟩
  have Q0 : Hid (∀ s, Ext w0 s → Cb s r 35 ev ∧ Ext w s) := fun s e => ⟨q_r.ext e, q_x.trans e⟩
  clear q_r q_x
  rw [← hr_]
  clear hr_ B0
  go_wp2_with (fail)
  refine (AW.out _).mono ?_
  rintro e u_ ⟨rfl, e1⟩
  have R_ : Cb u_ r 35 ev ∧ Ext w u_ := Q0.out _ e1
  clear Q0 e1 
  generalize u_ = w1 at *
  obtain ⟨q_r, q_x⟩ := R_
  have Q1 : Hid (∀ s, Ext w1 s → Cb s r 35 ev ∧ Ext w s) := fun s e => ⟨q_r.ext e, q_x.trans e⟩
  clear q_r q_x
  have f0 := ((Q1.out _ (Ext.refl _)).1).cell c68.out
  rcases Nat.lt_or_ge 1000 m with hm | hm
  · have u1 : decide ((m : Int) > 1000) = true := decide_eq_true (by omega)
    go_wp2_with fail
    go_ret
    exact ⟨rfl, ((Q1.out _ (Ext.refl _)).2)⟩
  rcases (by omega : cut < 0 ∨ 0 ≤ cut) with hm2 | hm2
  · have u1 : decide ((m : Int) > 1000) = false := decide_eq_false (by omega)
    have u2 : decide (cut < 0) = true := decide_eq_true (by omega)
    go_wp2_with fail
    go_ret
    exact ⟨rfl, ((Q1.out _ (Ext.refl _)).2)⟩
  have u1 : decide ((m : Int) > 1000) = false := decide_eq_false (by omega)
  have u2 : decide (cut < 0) = false := decide_eq_false (by omega)
  go_wp2_with (((with_reducible refine wpList_load_rowW (o := ⟨some 23, _, _, _, _, _⟩) ?_ 35 _ rfl r ?_ 35 ev.toArray (0, 0) _ ?_ Try.underlying35 ?_ ?_ ?_); (· rfl); (· rfl); (· exact ((Q1.out _ (Ext.refl _)).1)); (· rfl); (· rw [S_ev]; rfl); simp only [Act.put, List.setIfInBounds_toArray, List.set_cons_zero, List.set_cons_succ]))
  refine (EN.out _ ((Q1.out _ (Ext.refl _)).2)).mono ?_
  rintro e u_ ⟨A1, n1, c1, rfl, b1, e1⟩
  have R_ : Bs u_ A1 n1 c1 xb ∧ Cb u_ r 35 ev ∧ Ext w u_ := ⟨b1, Q1.out _ e1⟩
  clear Q1 e1 b1 f0
  generalize u_ = w2 at *
  obtain ⟨q_b, q_r, q_x⟩ := R_
  have Q2 : Hid (∀ s, Ext w2 s → Bs s A1 n1 c1 xb ∧ Cb s r 35 ev ∧ Ext w s) := fun s e => ⟨q_b.ext e, q_r.ext e, q_x.trans e⟩
  clear q_b q_r q_x
  rcases ok with _ | _
  · obtain ⟨q1, q2⟩ := E0.out rfl
    subst q1 q2
    obtain rfl : n1 = 0 := by rw [← ((Q2.out _ (Ext.refl _)).1).len]; rfl
    clear E0 E1 BK
    go_wp2_with fail
    go_ret
    exact ⟨rfl, ((Q2.out _ (Ext.refl _)).2.2)⟩
  obtain rfl := E1.out rfl
  obtain ⟨_, _, _, _, _, _, _, _, lb, _, _, _, _, _, cut3, more2⟩ := BK.out rfl
  obtain rfl : n1 = 76 + m := by rw [← ((Q2.out _ (Ext.refl _)).1).len]; exact lb
  replace lb := Lib.hid lb
  replace cut3 := Lib.hid cut3
  replace more2 := Lib.hid more2
  clear E0 E1 BK
  obtain ⟨k, hk_, klt⟩ : ∃ k : Nat, Int.tmod cut ((76 + m : Nat) : Int) = (k : Int) ∧ k < 76 + m := ⟨(Int.tmod cut ((76 + m : Nat) : Int)).toNat, by
    have := Int.tmod_nonneg ((76 + m : Nat) : Int) hm2
    omega, by
    have := Int.tmod_nonneg ((76 + m : Nat) : Int) hm2
    have := Int.tmod_lt_of_pos cut (show (0 : Int) < ((76 + m : Nat) : Int) by omega)
    omega⟩
  have u3 : ¬ ((76 + m : Nat) : Int) = 0 := by omega
  have u4 : (((76 + m : Nat) : Int) == 0) = false := by simp; omega
  obtain ⟨nn, hnn⟩ : ∃ nn, nn = 76 + m := ⟨_, rfl⟩
  rw [← hnn] at lb cut3 hk_ klt u3 u4 Q2 ⊢
  have RK := Lib.hid (RH.out _ _ _ _ _ (((Q2.out _ (Ext.refl _)).1).take (k := k) (by omega)))
  have E3 : Hid (reE (xb.take k) = 3) := cut3.out k klt
  have hbc := ((Q2.out _ (Ext.refl _)).1).le
  have hbc2 := ((Q2.out _ (Ext.refl _)).1).cap
  have m0 : 0 ≤ cut := hm2
  have r1 : (k : Int) ≤ (nn : Int) := by omega
  have r2 : (k : Int) ≤ (c1 : Int) := by omega
  have hn9 : nn ≤ 1100 := by omega
  replace hnn := Lib.hid hnn
  clear hbc hbc2
  have LV1 := Lib.hid (LV.out (xb.take k))
  have LV2 := Lib.hid (LV.out (xb ++ [0]))
  clear LV
  go_wp2_with (fail)
  refine (RK.out).mono ?_
  rintro e u_ ⟨B1, n3, d1, rfl, b1, e1⟩
  rw [E3.out]
  obtain ⟨v1, hv1⟩ : ∃ v, v = evC (rF (xb.take k)) (rT (xb.take k)) (rC (xb.take k)) (rK (xb.take k)) (rP (xb.take k)) (rN (xb.take k)) B1 n3 d1 := ⟨_, rfl⟩
  rw [← hv1]
  have S_v1 : v1.toArray.size = 69 := by rw [List.size_toArray, hv1]; exact (LV1.out _ _ _).1
  have O_v1 : Hid (v1.toArray.all (·.oneCell') = true) := by rw [hv1]; exact (LV1.out _ _ _).2
  clear hv1 b1
  have a1 : Hid ((u_.alloc (Obj.cells ez.toArray 35)).heap[u_.heap.size]? = some (.cells ez.toArray 35 (0, 0))) := heap_alloc_new _ _
  have E_ : Ext u_ ((u_.alloc (Obj.cells ez.toArray 35)).setRow u_.heap.size v1.toArray) := below_setRow ((Ext.refl u_).alloc _) (Nat.le_refl _) _
  replace e1 := Lib.hid e1
  go_upto_region 8 with (((with_reducible refine wpList_store_row (o := ⟨none, .store 35 (.tmp 8) (.tmp 48), _, _, _, _⟩) ?_ 35 _ _ rfl u_.heap.size v1.toArray ?_ ?_ 35 ez.toArray ?_ ?_ ?_ ?_ ?_); (· rfl); (· rfl); (· rfl); (· exact a1.out); (· rw [S_v1]; rfl); (· rw [S_v1, S_ez]); (· exact O_v1.out); simp only [Act.put, List.setIfInBounds_toArray, List.set_cons_zero, List.set_cons_succ]))
  obtain ⟨g1, hg_⟩ : ∃ g, g = u_.heap.size := ⟨_, rfl⟩
  refine wp_gen (fun W => Cb W g1 35 v1 ∧ Bs W A1 nn c1 xb ∧ Cb W r 35 ev ∧ Ext w W) ⟨by rw [hg_]; exact setRow_heap _ _ _ _ _ _ a1.out, Q2.out _ (e1.out.trans E_)⟩ ?_
  rw [← hg_]
  clear hg_ a1 E_ e1 Q2  RK E3
  rintro w3 ⟨q_g1, q_b, q_r, q_x⟩
  have Q3 : Hid (∀ s, Ext w3 s → Cb s g1 35 v1 ∧ Bs s A1 nn c1 xb ∧ Cb s r 35 ev ∧ Ext w s) := fun s e => ⟨q_g1.ext e, q_b.ext e, q_r.ext e, q_x.trans e⟩
  clear q_g1 q_b q_r q_x
  go_wp2_with (first
      | (at_builtin; (with_reducible refine wpList_append_bs rfl (B := w3.heap.size) (s := .tmp 51) (x := .tmp 52) rfl rfl rfl (Own.empty w3 _ (Nat.le_refl _)) (((Q3.out _ (Ext.refl _)).2.1).ext ((Ext.refl _).alloc _)) (by omega) (by simp) ?_); intro A6 c6 w6 o6 g6 b6; simp only [Nat.zero_add, List.nil_append] at o6 ⊢; replace o6 := Lib.hid o6; have e6 : Hid (Ext w3 w6) := Below.trans ((Ext.refl w3).alloc _) b6; clear g6 b6; simp only [Act.put, List.setIfInBounds_toArray, List.set_cons_zero, List.set_cons_succ])
      | (at_builtin; (with_reducible refine wpList_append_bs rfl (B := w3.heap.size) (s := .tmp 53) (x := .tmp 54) rfl rfl rfl (o6.out.ext ((Ext.refl _).alloc _)) (Bs.one8 _ _ 0 _ rfl) (by omega) (Nat.le_trans e6.out.size (by simp)) ?_); intro A7 c7 w7 o7 g7 b7; replace o7 := Lib.hid o7.bs; have e7 : Hid (Ext w3 w7) := Below.trans (e6.out.alloc _) b7; clear g7 b7; simp only [Act.put, List.setIfInBounds_toArray, List.set_cons_zero, List.set_cons_succ]))
  refine (RH.out _ _ _ _ _ o7.out).mono ?_
  rintro e u_ ⟨B2, n4, d2, rfl, b2, e1⟩
  have e1 := e7.out.trans e1
  clear e7 o7 o6 e6
  rw [more2.out]
  obtain ⟨v2, hv2⟩ : ∃ v, v = evC (rF (xb ++ [0])) (rT (xb ++ [0])) (rC (xb ++ [0])) (rK (xb ++ [0])) (rP (xb ++ [0])) (rN (xb ++ [0])) B2 n4 d2 := ⟨_, rfl⟩
  rw [← hv2]
  have S_v2 : v2.toArray.size = 69 := by rw [List.size_toArray, hv2]; exact (LV2.out _ _ _).1
  have O_v2 : Hid (v2.toArray.all (·.oneCell') = true) := by rw [hv2]; exact (LV2.out _ _ _).2
  clear hv2 b2
  have a1 : Hid ((u_.alloc (Obj.cells ez.toArray 35)).heap[u_.heap.size]? = some (.cells ez.toArray 35 (0, 0))) := heap_alloc_new _ _
  have E_ : Ext u_ ((u_.alloc (Obj.cells ez.toArray 35)).setRow u_.heap.size v2.toArray) := below_setRow ((Ext.refl u_).alloc _) (Nat.le_refl _) _
  replace e1 := Lib.hid e1
  go_upto_region 9 with (((with_reducible refine wpList_store_row (o := ⟨none, .store 35 (.tmp 10) (.tmp 57), _, _, _, _⟩) ?_ 35 _ _ rfl u_.heap.size v2.toArray ?_ ?_ 35 ez.toArray ?_ ?_ ?_ ?_ ?_); (· rfl); (· rfl); (· rfl); (· exact a1.out); (· rw [S_v2]; rfl); (· rw [S_v2, S_ez]); (· exact O_v2.out); simp only [Act.put, List.setIfInBounds_toArray, List.set_cons_zero, List.set_cons_succ]))
  obtain ⟨g2, hg_⟩ : ∃ g, g = u_.heap.size := ⟨_, rfl⟩
  refine wp_gen (fun W => Cb W g2 35 v2 ∧ Cb W g1 35 v1 ∧ Bs W A1 nn c1 xb ∧ Cb W r 35 ev ∧ Ext w W) ⟨by rw [hg_]; exact setRow_heap _ _ _ _ _ _ a1.out, Q3.out _ (e1.out.trans E_)⟩ ?_
  rw [← hg_]
  clear hg_ a1 E_ e1 Q3  more2
  rintro w4 ⟨q_g2, q_g1, q_b, q_r, q_x⟩
  have Q4 : Hid (∀ s, Ext w4 s → Cb s g2 35 v2 ∧ Cb s g1 35 v1 ∧ Bs s A1 nn c1 xb ∧ Cb s r 35 ev ∧ Ext w s) := fun s e => ⟨q_g2.ext e, q_g1.ext e, q_b.ext e, q_r.ext e, q_x.trans e⟩
  clear q_g2 q_g1 q_b q_r q_x
  go_wp2_with fail
  go_ret
  exact ⟨rfl, ((Q4.out _ (Ext.refl _)).2.2.2.2)⟩
end Go.Proofs.Ytojgmgghlkpfoaa
