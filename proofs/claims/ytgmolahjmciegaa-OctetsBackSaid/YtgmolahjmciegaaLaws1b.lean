/-
  The statements of layer 1 on rows, without the document's answer: OctetsBack, OctetsUnlike.
-/
import Derived.Test.YtgmolahjmciegaaLaws1
namespace Go.Proofs.Ytgmolahjmciegaa
open Go.ChangeShapes Go.WideShapes Go.ChangeAt Go.RowKit Go.Deep

theorem len_light {l : List (List UInt8)} (h : lightB l = true) : ∀ x ∈ l, x.length < 4294967296 := by
  intro x hx
  have hj := join_light h
  obtain ⟨k, hk⟩ := List.getElem?_of_mem hx
  have hkl : k < l.length := (List.getElem?_eq_some_iff.1 hk).1
  have h1 := joinL_len_snoc hkl
  have h2 := joinL_le l (k + 1)
  have : l.getD k [] = x := by simp [List.getD, hk]
  rw [this] at h1
  omega

theorem Bs.strL_eq {w : World} {A : Option Addr} {n c : Nat} {xs : List UInt8} (_ : Bs w A n c xs) : xs = xs := rfl

set_option maxHeartbeats 2000000 in
theorem back_calls {A A' : Option Addr} {n c n' c' : Nat} {l : List (List UInt8)} {xs : List UInt8} {w : World} (h : Rw w A n c l) (h' : Bs w A' n' c' xs) :
    Calls Try.prog 5 #[.slice A n c, .slice A' n' c'] w fun e w' => e = .returned (.bool true) ∧ Ext w w' := by
  have h3 := h'.le
  have h4 := h'.cap
  obtain ⟨r, hr⟩ : ∃ r, Hid (lightB l = r) := ⟨_, rfl⟩
  go_enter Try.func5, Try.ntmps5
  go_wp2_with fail
  refine (awake_calls _).mono ?_
  rintro e w1 ⟨rfl, e1⟩
  go_wp2_with fail
  have hli := light_calls (h.ext e1)
  rw [hr.out] at hli
  refine hli.mono ?_
  rintro e w2 ⟨rfl, rfl⟩
  clear hli
  cases r with
  | false =>
    go_wp2_with fail
    go_ret
    exact ⟨rfl, e1⟩
  | true =>
    by_cases q : 2000 < n'
    · go_wp2_with fail
      go_ret
      exact ⟨rfl, e1⟩
    · have hjl := join_light hr.out
      have hpj := part_join l (len_light hr.out)
      have HPJ := Lib.hid hpj
      clear hpj
      go_wp2_with fail
      refine (join_calls (h.ext e1) (by omega)).mono ?_
      rintro e w2 ⟨A2, n2, c2, rfl, b2, e2⟩
      have hn2 : n2 ≤ 1000000 := by rw [← b2.len]; omega
      go_wp2_with fail
      have hp1 := part_calls b2 hn2
      rw [HPJ.out] at hp1
      refine hp1.mono ?_
      rintro e w3 ⟨A3, n3, c3, rfl, b3, e3⟩
      clear hp1
      simp only [Option.getD_some] at b3
      have H3 : Ext w w3 := (e1.trans e2).trans e3
      go_wp2_with fail
      have hsr := sameRows_calls b3 (h.ext H3)
      rw [show decide (l = l) = true by simp] at hsr
      refine hsr.mono ?_
      rintro e w4 ⟨rfl, e4⟩
      clear hsr
      have H4 : Ext w w4 := H3.trans e4
      go_wp2_with fail
      cases hp : partL xs with
      | none =>
        have hp2 := part_calls (h'.ext H4) (by omega)
        rw [hp] at hp2
        refine hp2.mono ?_
        rintro e w5 ⟨A5, n5, c5, rfl, b5, e5⟩
        clear hp2 hp
        simp only [Option.isSome_none, Option.isSome_some, if_true, Bool.false_eq_true, if_false]
        go_wp2_with fail
        refine wp_region_seq (R := Ext) Ext.refl (fun _ _ _ => Ext.trans) [0, 1, 2, 3, 4, 5, 6, 7, 8, 9, 10, 11, 12, 15, 16, 13, 14, 17, 18, 19, 20] [13] [(0, 38, 64), (1, 39, 274877906944), (2, 40, 549755814400), (6, 41, 1649267441664), (10, 42, 2748779069440), (18, 43, 4398046511104), (32, 44, 8796093023232), (96, 45, 26388279066624), (160, 46, 35184372088832), (256, 47, 70368744181760), (768, 48, 211106232532992), (1280, 49, 351843720888320), (2048, 50, 562949953423360), (6144, 51, 1688849860263936), (10240, 52, 2814749767106560), (2048, 53, 562949953421316), (34816, 54, 9570149208162304), (83968, 55, 23080948090273792), (133376, 56, 36662115716562944), (262400, 57, 72127962782105600), (1048575, 5, 144115188075855872)] (by kernel_rfl) (by kernel_rfl) (by kernel_rfl) rfl (by kernel_rfl) (by kernel_rfl) (fun _ _ d _ _ h => by cases d <;> exact h) ?_
        repeat (first | (refine seq_read _ (fun w' e => conv_bs (h'.ext ((H4.trans e5).drew.trans e))) _ (v := ?_) rfl rfl (by rfl) ?_ ?_; rotate_left; (· intro w' hF; go_simp; (try with_reducible rfl)); simp only [Act.put, List.setIfInBounds_toArray, List.set_cons_zero, List.set_cons_succ]) | (refine seq_skip _ rfl rfl (by rfl) ?_; simp only [Act.put, List.setIfInBounds_toArray, List.set_cons_zero, List.set_cons_succ]))
        refine seq_do_skip Ext.refl _ rfl rfl (by rfl) ?_
        simp only [Act.put, List.setIfInBounds_toArray, List.set_cons_zero, List.set_cons_succ]
        repeat (first | (refine seq_read _ (fun w' e => conv_bs (h'.ext ((H4.trans e5).drew.trans e))) _ (v := ?_) rfl rfl (by rfl) ?_ ?_; rotate_left; (· intro w' hF; go_simp; (try with_reducible rfl)); simp only [Act.put, List.setIfInBounds_toArray, List.set_cons_zero, List.set_cons_succ]) | (refine seq_skip _ rfl rfl (by rfl) ?_; simp only [Act.put, List.setIfInBounds_toArray, List.set_cons_zero, List.set_cons_succ]))
        refine seq_done ?_
        go_wp2_with fail
        go_ret
        exact ⟨rfl, (H4.trans e5).drew⟩
      | some ps =>
        have hjp := join_part _ xs ps (Nat.lt_succ_self _) hp
        have hp2 := part_calls (h'.ext H4) (by omega)
        rw [hp] at hp2
        refine hp2.mono ?_
        rintro e w5 ⟨A5, n5, c5, rfl, b5, e5⟩
        clear hp2 hp
        simp only [Option.getD_some] at b5
        simp only [Option.isSome_some, if_true]
        have hx := h'.len
        have HJP := Lib.hid hjp
        have HX := Lib.hid hx
        clear hjp hx
        go_wp2_with fail
        refine wp_region_seq (R := Ext) Ext.refl (fun _ _ _ => Ext.trans) [0, 1, 2, 3, 4, 5, 6, 7, 8, 9, 10, 11, 12, 15, 16, 13, 14, 17, 18, 19, 20] [13] [(0, 38, 64), (1, 39, 274877906944), (2, 40, 549755814400), (6, 41, 1649267441664), (10, 42, 2748779069440), (18, 43, 4398046511104), (32, 44, 8796093023232), (96, 45, 26388279066624), (160, 46, 35184372088832), (256, 47, 70368744181760), (768, 48, 211106232532992), (1280, 49, 351843720888320), (2048, 50, 562949953423360), (6144, 51, 1688849860263936), (10240, 52, 2814749767106560), (2048, 53, 562949953421316), (34816, 54, 9570149208162304), (83968, 55, 23080948090273792), (133376, 56, 36662115716562944), (262400, 57, 72127962782105600), (1048575, 5, 144115188075855872)] (by kernel_rfl) (by kernel_rfl) (by kernel_rfl) rfl (by kernel_rfl) (by kernel_rfl) (fun _ _ d _ _ h => by cases d <;> exact h) ?_
        repeat (first | (refine seq_read _ (fun w' e => conv_bs (h'.ext ((H4.trans e5).drew.trans e))) _ (v := ?_) rfl rfl (by rfl) ?_ ?_; rotate_left; (· intro w' hF; go_simp; (try with_reducible rfl)); simp only [Act.put, List.setIfInBounds_toArray, List.set_cons_zero, List.set_cons_succ]) | (refine seq_skip _ rfl rfl (by rfl) ?_; simp only [Act.put, List.setIfInBounds_toArray, List.set_cons_zero, List.set_cons_succ]))
        refine seq_do _ rfl rfl (by rfl) (fun K hK => ?_)
        go_simp
        have hj := join_calls (b5.ext (Ext.refl _).drew) (by rw [HJP.out, HX.out]; omega)
        rw [HJP.out] at hj
        refine hj.mono ?_
        rintro e w6 ⟨A6, n6, c6, rfl, b6, e6⟩
        refine hK.out _ _ e6 ?_
        clear hK K
        try simp only [Act.put, List.setIfInBounds_toArray, List.set_cons_zero, List.set_cons_succ]
        clear hj
        repeat (first | (refine seq_read _ (fun w' e => conv_bs (b6.ext e)) _ (v := ?_) rfl rfl (by rfl) ?_ ?_; rotate_left; (· intro w' hF; go_simp; (try with_reducible rfl)); simp only [Act.put, List.setIfInBounds_toArray, List.set_cons_zero, List.set_cons_succ]) | (refine seq_skip _ rfl rfl (by rfl) ?_; simp only [Act.put, List.setIfInBounds_toArray, List.set_cons_zero, List.set_cons_succ]))
        refine seq_done ?_
        go_wp2_with fail
        go_ret
        exact ⟨rfl, (H4.trans e5).drew.trans e6⟩

set_option maxHeartbeats 2000000 in
theorem unlike_calls {A A' : Option Addr} {n c n' c' : Nat} {l l' : List (List UInt8)} {w : World} (h : Rw w A n c l) (h' : Rw w A' n' c' l') :
    Calls Try.prog 6 #[.slice A n c, .slice A' n' c'] w fun e w' => e = .returned (.bool true) ∧ Ext w w' := by
  obtain ⟨r, hr⟩ : ∃ r, Hid (lightB l = r) := ⟨_, rfl⟩
  obtain ⟨r', hr'⟩ : ∃ r, Hid (lightB l' = r) := ⟨_, rfl⟩
  go_enter Try.func6, Try.ntmps6
  go_wp2_with fail
  refine (awake_calls _).mono ?_
  rintro e w1 ⟨rfl, e1⟩
  go_wp2_with fail
  have hli := light_calls (h.ext e1)
  rw [hr.out] at hli
  refine hli.mono ?_
  rintro e w2 ⟨rfl, rfl⟩
  clear hli
  go_wp2_with fail
  have hli := light_calls (h'.ext e1)
  rw [hr'.out] at hli
  refine hli.mono ?_
  rintro e w2 ⟨rfl, rfl⟩
  clear hli
  cases r with
  | false =>
    go_wp2_with fail
    go_ret
    exact ⟨rfl, e1⟩
  | true =>
    cases r' with
    | false =>
      go_wp2_with fail
      go_ret
      exact ⟨rfl, e1⟩
    | true =>
      have hjl := join_light hr.out
      have hjl' := join_light hr'.out
      obtain ⟨s, hs⟩ : ∃ s, Hid (decide (l = l') = s) := ⟨_, rfl⟩
      have hcmp : Hid (((strL (joinL l)).toList == (strL (joinL l')).toList) = s) := by
        unfold Hid
        rw [strL_toList, strL_toList, ← hs.out]
        by_cases e : l = l'
        · subst e; simp
        · have : joinL l ≠ joinL l' := fun hh => e (by
            have h1 := part_join l (len_light hr.out)
            rw [hh, part_join l' (len_light hr'.out)] at h1
            injection h1 with h1
            exact h1.symm)
          simp [e, this]
      go_wp2_with fail
      have hsr := sameRows_calls (h.ext e1) (h'.ext e1)
      rw [hs.out] at hsr
      refine hsr.mono ?_
      rintro e w4 ⟨rfl, e4⟩
      clear hsr
      have H4 : Ext w w4 := e1.trans e4
      generalize hx : joinL l = x at *
      generalize hy : joinL l' = y at *
      have HX := Lib.hid hx
      have HY := Lib.hid hy
      clear hx hy
      have hj1 : Hid (∀ w', Ext w w' → Calls Try.prog 26 #[.slice A n c] w' (RetBs x w')) := fun w' e => by
        have := join_calls (h.ext e) (by rw [HX.out]; omega)
        rwa [HX.out] at this
      have hj2 : Hid (∀ w', Ext w w' → Calls Try.prog 26 #[.slice A' n' c'] w' (RetBs y w')) := fun w' e => by
        have := join_calls (h'.ext e) (by rw [HY.out]; omega)
        rwa [HY.out] at this
      go_wp2_with fail
      refine wp_region_seq (R := Ext) Ext.refl (fun _ _ _ => Ext.trans) [0, 1, 2, 5, 9, 3, 4, 6, 7, 8, 10, 11, 12] [3, 6] [(0, 25, 64), (1, 26, 33554432), (2, 27, 67108866), (6, 28, 201326592), (10, 29, 335544320), (2, 30, 67108868), (42, 31, 1140850688), (66, 32, 2214592512), (146, 33, 4898947072), (2, 34, 67109376), (770, 35, 25836912640), (1026, 36, 34426847232), (4095, 5, 68719476736)] (by kernel_rfl) (by kernel_rfl) (by kernel_rfl) rfl (by kernel_rfl) (by kernel_rfl) (fun _ _ d _ _ h => by cases d <;> exact h) ?_
      repeat (first | (refine seq_read (fun _ => True) (fun _ _ => trivial) _ (v := ?_) rfl rfl (by rfl) ?_ ?_; rotate_left; (· intro w' hF; go_simp; (try with_reducible rfl)); simp only [Act.put, List.setIfInBounds_toArray, List.set_cons_zero, List.set_cons_succ]) | (refine seq_skip _ rfl rfl (by rfl) ?_; simp only [Act.put, List.setIfInBounds_toArray, List.set_cons_zero, List.set_cons_succ]))
      refine seq_do _ rfl rfl (by rfl) (fun K hK => ?_)
      go_simp
      refine (hj1.out _ H4.drew).mono ?_
      rintro e w5 ⟨A5, n5, c5, rfl, b5, e5⟩
      refine hK.out _ _ e5 ?_
      clear hK K
      try simp only [Act.put, List.setIfInBounds_toArray, List.set_cons_zero, List.set_cons_succ]
      repeat (first | (refine seq_read _ (fun w' e => conv_bs (b5.ext e)) _ (v := ?_) rfl rfl (by rfl) ?_ ?_; rotate_left; (· intro w' hF; go_simp; (try with_reducible rfl)); simp only [Act.put, List.setIfInBounds_toArray, List.set_cons_zero, List.set_cons_succ]) | (refine seq_skip _ rfl rfl (by rfl) ?_; simp only [Act.put, List.setIfInBounds_toArray, List.set_cons_zero, List.set_cons_succ]))
      refine seq_do _ rfl rfl (by rfl) (fun K hK => ?_)
      go_simp
      refine (hj2.out _ (H4.drew.trans e5)).mono ?_
      rintro e w6 ⟨A6, n6, c6, rfl, b6, e6⟩
      refine hK.out _ _ e6 ?_
      clear hK K
      try simp only [Act.put, List.setIfInBounds_toArray, List.set_cons_zero, List.set_cons_succ]
      have hc' := hcmp.out
      repeat (first | (refine seq_read _ (fun w' e => conv_bs (b6.ext e)) _ (v := ?_) rfl rfl (by rfl) ?_ ?_; rotate_left; (· intro w' hF; go_simp; (try with_reducible rfl)); simp only [Act.put, List.setIfInBounds_toArray, List.set_cons_zero, List.set_cons_succ]) | (refine seq_skip _ rfl rfl (by rfl) ?_; simp only [Act.put, List.setIfInBounds_toArray, List.set_cons_zero, List.set_cons_succ]))
      refine seq_done ?_
      go_wp2_with fail
      go_ret
      exact ⟨ret_bool (by simp), (H4.drew.trans e5).trans e6⟩
end Go.Proofs.Ytgmolahjmciegaa
