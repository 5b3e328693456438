/-
  palfreylaw19.same: lists with the same data.
-/
import Derived.Test.YtojgmgghlkpfoaaRack
import Derived.Test.YtojgmgghlkpfoaaStS
namespace Go.Proofs.Ytojgmgghlkpfoaa
open Go.ChangeShapes Go.WideShapes Go.ChangeAt Go.RowKit Go.Deep
set_option maxRecDepth 100000

theorem Wm.c_ev (x : Wm) (q : Nat) (v : Value) (h : x.ev[q]? = some v) : x.C[1 + q]? = some v := by
  show ([Value.int .i64 x.d.id] ++ (x.ev ++ x.d.stm))[1 + q]? = some v
  rw [List.getElem?_append_right (by simp), List.length_singleton, Nat.add_sub_cancel_left, List.getElem?_append_left (List.getElem?_eq_some_iff.1 h).1, h]
theorem Wm.c_st {x : Wm} (hx : x.d.ok) (q : Nat) (v : Value) (h : x.d.stm[q]? = some v) : x.C[70 + q]? = some v := by
  show ([Value.int .i64 x.d.id] ++ (x.ev ++ x.d.stm))[70 + q]? = some v
  rw [List.getElem?_append_right (by simp; omega), List.getElem?_append_right (by rw [x.ev_len hx]; simp), x.ev_len hx, List.length_singleton, show 70 + q - 1 - 69 = q by omega, h]
set_option maxHeartbeats 8000000 in
theorem same19_calls {w : World} {L R : List Wm} {A A' : Option Addr} {n n' c c' : Nat} (hl : Cs w 138 A n c (L.map Wm.C)) (hr : Cs w 138 A' n' c' (R.map Wm.C)) (bl : ∀ x ∈ L, x.d.ok ∧ Bs w x.A x.d.body.length x.c x.d.body) (br : ∀ x ∈ R, x.d.ok ∧ Bs w x.A x.d.body.length x.c x.d.body) (he : L.map (·.d) = R.map (·.d)) (hn : n ≤ 1000) :
    Calls Try.prog 28 #[.slice A n c, .slice A' n' c'] w fun e w' => e = .returned (.bool true) ∧ Ext w w' := by
  have lL : L.length = n := by have := hl.1.1; rwa [List.length_map] at this
  have lR : R.length = n' := by have := hr.1.1; rwa [List.length_map] at this
  obtain rfl : n' = n := by rw [← lL, ← lR, ← List.length_map (f := fun x : Wm => x.d), ← he, List.length_map]
  have q1 := hl.2.1
  have q2 := hr.2.1
  have q3 : n' ≤ 9223372036854775807 := by omega
  replace hl := Lib.hid hl
  replace hr := Lib.hid hr
  replace bl := Lib.hid bl
  replace br := Lib.hid br
  replace he := Lib.hid he
  go_enter Try.func28, Try.ntmps28
  go_wp2_with fail
  go_loopw [5] (fun v wr => ∃ k : Nat, k ≤ n' ∧ v = .int .i64 (k : Int) ∧ Ext w wr) (fun v _ => n' - (intOf v).toNat)
  case atStart => exact ⟨0, Nat.zero_le _, rfl, Ext.refl w⟩
  case round =>
    obtain ⟨k, hkn, rfl, xk⟩ := hrel
    by_cases hlt : k < n'
    · obtain ⟨b, off, rfl, hb, hc⟩ := (hl.out.ext xk).at hlt
      obtain ⟨b', off', rfl, hb', hc'⟩ := (hr.out.ext xk).at hlt
      obtain ⟨x, hx⟩ : ∃ x, x = L[k]'(by omega) := ⟨_, rfl⟩
      obtain ⟨y, hy⟩ : ∃ y, y = R[k]'(by omega) := ⟨_, rfl⟩
      have e1 : (L.map Wm.C).getD k [] = x.C := by rw [hx, List.getD_eq_getElem?_getD, List.getElem?_map, List.getElem?_eq_getElem (by omega)]; rfl
      have e2 : (R.map Wm.C).getD k [] = y.C := by rw [hy, List.getD_eq_getElem?_getD, List.getElem?_map, List.getElem?_eq_getElem (by omega)]; rfl
      have hxy : y.d = x.d := by
        have := congrArg (fun l => l[k]?) he.out
        simp only [List.getElem?_map, List.getElem?_eq_getElem (show k < L.length by omega), List.getElem?_eq_getElem (show k < R.length by omega), Option.map_some, ← hx, ← hy] at this
        exact (Option.some.inj this).symm
      obtain ⟨ox, bx⟩ := bl.out x (by rw [hx]; exact List.getElem_mem _)
      obtain ⟨_, byy⟩ := br.out y (by rw [hy]; exact List.getElem_mem _)
      rw [e1] at hc
      rw [e2] at hc'
      obtain ⟨yd, yA, yc⟩ := y
      obtain rfl : yd = x.d := hxy
      clear hx hy e1 e2
      have SM : Hid (∀ W, Ext wr W → Calls Try.prog 21 #[.agg x.ev.toArray, .agg (⟨x.d, yA, yc⟩ : Wm).ev.toArray] W fun e w' => e = .returned (.bool true) ∧ Ext W w') := fun W e => by
        have := same12_calls (w := W) (f := x.d.f) (f' := x.d.f) (t := x.d.t) (t' := x.d.t) (p := x.d.p) (p' := x.d.p) (n := x.d.n) (n' := x.d.n) ox.1.1 ox.1.2 ox.1.1 ox.1.2 (bx.ext (xk.trans e)) (byy.ext (xk.trans e))
        rw [sameE_refl] at this
        exact this
      have M1 : Hid (∀ s, Ext wr s → ∀ q v, x.ev[q]? = some v → s.cell? ⟨b, off + k * 138 + 1 + q, none⟩ = some v) := fun s e q v h => (e.cell hb).trans (by rw [Nat.add_assoc]; exact hc _ _ (x.c_ev q v h))
      have M2 : Hid (∀ s, Ext wr s → ∀ q v, (⟨x.d, yA, yc⟩ : Wm).ev[q]? = some v → s.cell? ⟨b', off' + k * 138 + 1 + q, none⟩ = some v) := fun s e q v h => (e.cell hb').trans (by rw [Nat.add_assoc]; exact hc' _ _ (Wm.c_ev _ q v h))
      have M3 : Hid (∀ s, Ext wr s → ∀ q v, x.d.stm[q]? = some v → s.cell? ⟨b, off + k * 138 + 70 + q, none⟩ = some v) := fun s e q v h => (e.cell hb).trans (by rw [Nat.add_assoc]; exact hc _ _ (x.c_st ox q v h))
      have M4 : Hid (∀ s, Ext wr s → ∀ q v, x.d.stm[q]? = some v → s.cell? ⟨b', off' + k * 138 + 70 + q, none⟩ = some v) := fun s e q v h => (e.cell hb').trans (by rw [Nat.add_assoc]; exact hc' _ _ (Wm.c_st (x := ⟨x.d, yA, yc⟩) ox q v h))
      have I1 : Hid (∀ s, Ext wr s → s.cell? ⟨b, off + k * 138, none⟩ = some (.int .i64 x.d.id) ∧ s.cell? ⟨b', off' + k * 138, none⟩ = some (.int .i64 x.d.id)) := fun s e => ⟨(e.cell hb).trans (hc 0 _ x.c0), (e.cell hb').trans (hc' 0 _ (Wm.c0 _))⟩
      have L_x := x.ev_len ox
      have L_y := Wm.ev_len (x := ⟨x.d, yA, yc⟩) ox
      have L_s := x.d.stm_len ox
      have STF : Hid (∃ ep f t tm cm tg, x.d.stm = stC ep f t tm cm tg ∧ cm.length = 32 ∧ tg.length = 32) := ⟨_, _, _, _, _, _, rfl, ox.2.1.1, ox.2.1.2⟩
      clear hc hc' ox bx byy
      generalize (⟨x.d, yA, yc⟩ : Wm).ev = EY at *
      generalize x.ev = EX at *
      generalize x.d.stm = ST at *
      generalize x.d.id = ix at *
      replace xk := Lib.hid xk
      clear he bl br
      go_upto_region 6 with fail
      refine wp_region_seq (R := Ext) Ext.refl (fun _ _ _ => Ext.trans) [0, 1, 2, 3, 4, 5, 6, 7, 8, 9, 10, 11] [10] [(0, 19, 2), (0, 20, 64), (3, 21, 1572864), (4, 22, 2097152), (8, 23, 4194304), (0, 24, 4), (0, 25, 64), (96, 26, 50331648), (128, 27, 67108864), (256, 28, 134217728), (528, 29, 276824064), (2047, 7, 536870912)] (by kernel_rfl) (by kernel_rfl) (by kernel_rfl) rfl (by kernel_rfl) (by kernel_rfl) (fun _ _ d _ _ h => by cases d <;> exact h) ?_
      repeat (first | (refine seq_read (fun _ => True) (fun _ _ => trivial) _ (v := ?_) rfl rfl (by rfl) ?_ ?_; rotate_left; (· intro w' hF; go_simp; (try with_reducible rfl)); simp only [Act.put, List.setIfInBounds_toArray, List.set_cons_zero, List.set_cons_succ]) | (refine seq_skip _ rfl rfl (by rfl) ?_; simp only [Act.put, List.setIfInBounds_toArray, List.set_cons_zero, List.set_cons_succ]))
      refine seq_read (fun w' => ∀ q_ v, EX[q_]? = some v → w'.cell? ⟨b, (off + k * 138 + 1) + q_, none⟩ = some v) (fun w' e => M1.out w' (Ext.trans (Ext.refl _).drew e)) _ (v := .agg EX.toArray) rfl rfl (by rfl) (fun w' hF => exec_load_mid rfl rfl hF rfl rfl (by rw [L_x]; rfl)) ?_
      simp only [Act.put, List.setIfInBounds_toArray, List.set_cons_zero, List.set_cons_succ]
      repeat (first | (refine seq_read (fun _ => True) (fun _ _ => trivial) _ (v := ?_) rfl rfl (by rfl) ?_ ?_; rotate_left; (· intro w' hF; go_simp; (try with_reducible rfl)); simp only [Act.put, List.setIfInBounds_toArray, List.set_cons_zero, List.set_cons_succ]) | (refine seq_skip _ rfl rfl (by rfl) ?_; simp only [Act.put, List.setIfInBounds_toArray, List.set_cons_zero, List.set_cons_succ]))
      refine seq_read (fun w' => ∀ q_ v, EY[q_]? = some v → w'.cell? ⟨b', (off' + k * 138 + 1) + q_, none⟩ = some v) (fun w' e => M2.out w' (Ext.trans (Ext.refl _).drew e)) _ (v := .agg EY.toArray) rfl rfl (by rfl) (fun w' hF => exec_load_mid rfl rfl hF rfl rfl (by rw [L_y]; rfl)) ?_
      simp only [Act.put, List.setIfInBounds_toArray, List.set_cons_zero, List.set_cons_succ]
      have S0 : Hid (Ext wr wr.drew) := (Ext.refl wr).drew
      generalize wr.drew = W at *
      refine seq_do _ rfl rfl (by rfl) (fun K hK => ?_)
      go_simp
      refine (SM.out W S0.out).mono ?_
      rintro e w1 ⟨rfl, x1⟩
      refine hK.out _ _ x1 ?_
      clear hK K
      try simp only [Act.put, List.setIfInBounds_toArray, List.set_cons_zero, List.set_cons_succ]
      have S1 : Hid (Ext wr w1) := S0.out.trans x1
      clear S0 x1 SM M1 M2
      repeat (first | (refine seq_read (fun _ => True) (fun _ _ => trivial) _ (v := ?_) rfl rfl (by rfl) ?_ ?_; rotate_left; (· intro w' hF; go_simp; (try with_reducible rfl)); simp only [Act.put, List.setIfInBounds_toArray, List.set_cons_zero, List.set_cons_succ]) | (refine seq_skip _ rfl rfl (by rfl) ?_; simp only [Act.put, List.setIfInBounds_toArray, List.set_cons_zero, List.set_cons_succ]))
      refine seq_done ?_
      go_upto_region 7 with fail
      refine wp_region_seq (R := Ext) Ext.refl (fun _ _ _ => Ext.trans) [0, 1, 2, 3, 4, 5, 6, 7, 8, 9, 10, 11, 12, 13, 14, 15, 16, 17, 18, 19, 20, 21, 22, 23, 24, 25, 26, 27] [] [(0, 30, 128), (1, 31, 1073741824), (2, 32, 2147483648), (4, 33, 4294967298), (4, 34, 4294967360), (28, 35, 30064771072), (36, 36, 38654705664), (68, 37, 73014444032), (4, 38, 4294967300), (4, 39, 4294967360), (772, 40, 828928688128), (1028, 41, 1103806595072), (2052, 42, 2203318222848), (4228, 43, 4539780431872), (8196, 44, 8800387989504), (16388, 45, 17592186044416), (32768, 46, 35184372088834), (32768, 47, 35184372088896), (229376, 48, 246290604621824), (294912, 49, 316659348799488), (557056, 50, 598134325510144), (32768, 51, 35184372088836), (32768, 52, 35184372088896), (6324224, 53, 6790583813144576), (8421376, 54, 9042383626829824), (16809984, 55, 18049582881570816), (34635776, 56, 37189881297895424), (67141632, 57, 72092778410016768)] (by kernel_rfl) (by kernel_rfl) (by kernel_rfl) rfl (by kernel_rfl) (by kernel_rfl) (fun _ _ d _ _ h => by cases d <;> exact h) ?_
      repeat (first | (refine seq_read _ (fun w' e => I1.out w' (S1.out.trans (Ext.trans (Ext.refl _).drew e))) _ (v := ?_) rfl rfl (by rfl) ?_ ?_; rotate_left; (· intro w' hF; go_simp; (try with_reducible rfl)); simp only [Act.put, List.setIfInBounds_toArray, List.set_cons_zero, List.set_cons_succ]) | (refine seq_skip _ rfl rfl (by rfl) ?_; simp only [Act.put, List.setIfInBounds_toArray, List.set_cons_zero, List.set_cons_succ]))
      refine seq_read (fun w' => ∀ q_ v, ST[q_]? = some v → w'.cell? ⟨b, (off + k * 138 + 70) + q_, none⟩ = some v) (fun w' e => M3.out w' (S1.out.trans (Ext.trans (Ext.refl _).drew e))) _ (v := .agg ST.toArray) rfl rfl (by rfl) (fun w' hF => exec_load_mid rfl rfl hF rfl rfl (by rw [L_s]; rfl)) ?_
      simp only [Act.put, List.setIfInBounds_toArray, List.set_cons_zero, List.set_cons_succ]
      repeat (first | (refine seq_read (fun _ => True) (fun _ _ => trivial) _ (v := ?_) rfl rfl (by rfl) ?_ ?_; rotate_left; (· intro w' hF; go_simp; (try with_reducible rfl)); simp only [Act.put, List.setIfInBounds_toArray, List.set_cons_zero, List.set_cons_succ]) | (refine seq_skip _ rfl rfl (by rfl) ?_; simp only [Act.put, List.setIfInBounds_toArray, List.set_cons_zero, List.set_cons_succ]))
      refine seq_read (fun w' => ∀ q_ v, ST[q_]? = some v → w'.cell? ⟨b', (off' + k * 138 + 70) + q_, none⟩ = some v) (fun w' e => M4.out w' (S1.out.trans (Ext.trans (Ext.refl _).drew e))) _ (v := .agg ST.toArray) rfl rfl (by rfl) (fun w' hF => exec_load_mid rfl rfl hF rfl rfl (by rw [L_s]; rfl)) ?_
      simp only [Act.put, List.setIfInBounds_toArray, List.set_cons_zero, List.set_cons_succ]
      refine seq_read (fun _ => True) (fun _ _ => trivial) _ (v := .bool false) rfl rfl (by rfl) (fun w' _ => exec_neq_stamp STF.out rfl rfl rfl) ?_
      simp only [Act.put, List.setIfInBounds_toArray, List.set_cons_zero, List.set_cons_succ]
      repeat (first | (refine seq_read (fun _ => True) (fun _ _ => trivial) _ (v := ?_) rfl rfl (by rfl) ?_ ?_; rotate_left; (· intro w' hF; go_simp; (try with_reducible rfl)); simp only [Act.put, List.setIfInBounds_toArray, List.set_cons_zero, List.set_cons_succ]) | (refine seq_skip _ rfl rfl (by rfl) ?_; simp only [Act.put, List.setIfInBounds_toArray, List.set_cons_zero, List.set_cons_succ]))
      refine seq_done ?_
      have S2 : Hid (Ext w w1.drew) := xk.out.trans (S1.out.trans (Ext.refl _).drew)
      clear M3 M4 I1 S1 STF
      go_wp2_with fail
      go_round
      case rel => exact ⟨k + 1, by omega, by go_num, S2.out⟩
      case measure => simp [intOf]; omega
    · obtain rfl : k = n' := by omega
      go_wp2_with fail
      go_ret
      exact ⟨rfl, xk⟩
end Go.Proofs.Ytojgmgghlkpfoaa
