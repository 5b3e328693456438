/-
  The statements of layer 1 on rows: OctetsJoins, OctetsBack, OctetsUnlike.
-/
import Derived.Test.YtgmolahjmciegaaRefPart
namespace Go.Proofs.Ytgmolahjmciegaa
open Go.ChangeShapes Go.WideShapes Go.ChangeAt Go.RowKit Go.Deep

theorem lightAt_mono (l : List (List UInt8)) (k : Nat) : ∀ d, lightAt l k ≤ lightAt l (k + d)
  | 0 => Nat.le_refl _
  | d + 1 => by have := lightAt_mono l k d; rw [← Nat.add_assoc, lightAt]; omega
theorem sizeAt_light {l : List (List UInt8)} (h : lightAt l l.length < 10000) : ∀ k, k ≤ l.length → sizeAt l k = 4 * k + lightAt l k
  | 0, _ => by simp [sizeAt, joinL, lightAt]
  | k + 1, hk => by
    have ih := sizeAt_light h k (by omega)
    have h1 : lightAt l (k + 1) ≤ lightAt l l.length := by
      have := lightAt_mono l (k + 1) (l.length - (k + 1))
      rwa [show k + 1 + (l.length - (k + 1)) = l.length by omega] at this
    unfold sizeAt at *
    rw [joinL_len_snoc (by omega), ih]
    rw [lightAt] at h1 ⊢
    omega
theorem join_light {l : List (List UInt8)} (h : lightB l = true) : (joinL l).length ≤ 100000 := by
  unfold lightB at h
  rw [Bool.and_eq_true, decide_eq_true_iff, decide_eq_true_iff] at h
  rw [show min l.length 100 = l.length by omega] at h
  have := sizeAt_light h.2 l.length (Nat.le_refl _)
  rw [sizeAt, List.take_of_length_le (Nat.le_refl _)] at this
  omega

set_option maxHeartbeats 2000000 in
theorem joins_calls {A A' : Option Addr} {n c n' c' : Nat} {l : List (List UInt8)} {xs : List UInt8} {w : World} (h : Rw w A n c l) (h' : Bs w A' n' c' xs) :
    Calls Try.prog 4 #[.slice A n c, .slice A' n' c'] w fun e w' => e = .returned (.bool true) ∧ Ext w w' := by
  have h3 := h'.le
  have h4 := h'.cap
  obtain ⟨r, hr⟩ : ∃ r, Hid (lightB l = r) := ⟨_, rfl⟩
  go_enter Try.func4, Try.ntmps4
  go_wp2_with fail
  refine (awake_calls _).mono ?_
  rintro e w1 ⟨rfl, e1⟩
  go_wp2_with fail
  have hli := light_calls (h.ext e1)
  rw [hr.out] at hli
  refine hli.mono ?_
  rintro e w2 ⟨rfl, rfl⟩
  clear hli
  cases r with
  | false =>
    go_wp2_with fail
    go_ret
    exact ⟨rfl, e1⟩
  | true =>
    by_cases q : 2000 < n'
    · go_wp2_with fail
      go_ret
      exact ⟨rfl, e1⟩
    · have hjl := join_light hr.out
      obtain ⟨ps, hps⟩ : ∃ ps, Hid ((partL xs).getD [] = ps) := ⟨_, rfl⟩
      obtain ⟨er, her⟩ : ∃ er, Hid ((if (partL xs).isSome then (0 : Int) else 3) = er) := ⟨_, rfl⟩
      go_wp2_with fail
      have hp1 := part_calls (h'.ext e1) (by omega)
      unfold RetPart at hp1
      rw [hps.out, her.out] at hp1
      refine hp1.mono ?_
      rintro e w2 ⟨A2, n2, c2, rfl, b2, e2⟩
      clear hp1
      go_wp2_with fail
      have hp2 := refPart_calls (h'.ext (e1.trans e2)) (by omega)
      unfold RetPart at hp2
      rw [hps.out, her.out] at hp2
      refine hp2.mono ?_
      rintro e w3 ⟨A3, n3, c3, rfl, b3, e3⟩
      clear hp2
      go_wp2_with fail
      have hsr := sameRows_calls (b2.ext e3) b3
      rw [show decide (ps = ps) = true by simp] at hsr
      refine hsr.mono ?_
      rintro e w4 ⟨rfl, e4⟩
      clear hsr
      have H4 : Ext w w4 := ((e1.trans e2).trans e3).trans e4
      go_wp2_with fail
      refine wp_region_seq (R := Ext) Ext.refl (fun _ _ _ => Ext.trans) [0, 1, 2, 5, 3, 4, 6, 7, 8, 9, 10, 11, 12, 13, 14, 15, 16, 17, 18] [3, 6] [(0, 37, 64), (1, 38, 137438953472), (2, 39, 274877906946), (6, 40, 824633720832), (10, 41, 1374389534720), (2, 42, 274877906946), (42, 43, 4672924418048), (66, 44, 9070970929152), (146, 45, 20066087206912), (258, 46, 35459249995776), (576, 47, 70368744177664), (1024, 48, 140737488359424), (3072, 49, 422212465065984), (5120, 50, 562949953421312), (8192, 51, 1125899906843136), (8192, 52, 1125899906844672), (57344, 53, 7881299347898368), (73728, 54, 10133099161583616), (262143, 5, 18014398509481984)] (by kernel_rfl) (by kernel_rfl) (by kernel_rfl) rfl (by kernel_rfl) (by kernel_rfl) (fun _ _ d _ _ h => by cases d <;> exact h) ?_
      repeat (refine seq_read (fun _ => True) (fun _ _ => trivial) _ (v := ?_) rfl rfl (by rfl) ?_ ?_; rotate_left; (· intro w' hF; go_simp; (try with_reducible rfl)); simp only [Act.put, List.setIfInBounds_toArray, List.set_cons_zero, List.set_cons_succ])
      refine seq_do _ rfl rfl (by rfl) (fun K hK => ?_)
      go_simp
      refine (join_calls (h.ext H4.drew) (by omega)).mono ?_
      rintro e w5 ⟨A5, n5, c5, rfl, b5, e5⟩
      refine hK.out _ _ e5 ?_
      clear hK K
      try simp only [Act.put, List.setIfInBounds_toArray, List.set_cons_zero, List.set_cons_succ]
      repeat (refine seq_read _ (fun w' e => conv_bs (b5.ext e)) _ (v := ?_) rfl rfl (by rfl) ?_ ?_; rotate_left; (· intro w' hF; go_simp; (try with_reducible rfl)); simp only [Act.put, List.setIfInBounds_toArray, List.set_cons_zero, List.set_cons_succ])
      refine seq_do _ rfl rfl (by rfl) (fun K hK => ?_)
      go_simp
      refine (refJoin_calls (h.ext (H4.drew.trans e5)) (by omega)).mono ?_
      rintro e w6 ⟨A6, n6, c6, rfl, b6, e6⟩
      refine hK.out _ _ e6 ?_
      clear hK K
      try simp only [Act.put, List.setIfInBounds_toArray, List.set_cons_zero, List.set_cons_succ]
      repeat (refine seq_read _ (fun w' e => conv_bs (b6.ext e)) _ (v := ?_) rfl rfl (by rfl) ?_ ?_; rotate_left; (· intro w' hF; go_simp; (try with_reducible rfl)); simp only [Act.put, List.setIfInBounds_toArray, List.set_cons_zero, List.set_cons_succ])
      refine seq_done ?_
      go_wp2_with fail
      go_ret
      exact ⟨rfl, (H4.drew.trans e5).trans e6⟩

theorem lowL_ofLowL : ∀ {m : Nat} {xs : List UInt8}, xs.length = m → lowL (ofLowL xs) m = xs
  | 0, xs, h => by rw [List.eq_nil_of_length_eq_zero h]; rfl
  | m + 1, x :: xs, h => by
    rw [lowL_succ, ofLowL]
    have hx : x.toNat < 256 := x.toNat_lt
    have h1 : (x.toNat + 256 * ofLowL xs) / 256 = ofLowL xs := by omega
    rw [h1, lowL_ofLowL (by simpa using h)]
    congr 1
    apply UInt8.toNat_inj.1
    rw [UInt8.toNat_ofNat']
    omega

theorem row4_head (x : List UInt8) (hx : x.length < 4294967296) (r : List UInt8) : ((row4 x ++ r).take 4) = (lowL x.length 4).reverse ∧ (row4 x ++ r).drop 4 = x ++ r := by
  unfold row4
  have h4 : (lowL x.length 4).reverse.length = 4 := by simp [lowL_len]
  constructor
  · rw [List.append_assoc, List.take_append_of_le_length (by omega), List.take_of_length_le (by omega)]
  · rw [List.append_assoc, List.drop_append_of_le_length (by omega), List.drop_of_length_le (by omega), List.nil_append]
/-- What was joined is parted as it was. -/
theorem part_join : ∀ (l : List (List UInt8)), (∀ x ∈ l, x.length < 4294967296) → partL (joinL l) = some l
  | [], _ => rfl
  | x :: l, h => by
    have ih := part_join l (fun y hy => h y (by simp [hy]))
    have hx := h x (by simp)
    have hj : joinL (x :: l) = row4 x ++ joinL l := by simp [joinL]
    obtain ⟨t1, t2⟩ := row4_head x hx (joinL l)
    have hof : ofLowL (((row4 x ++ joinL l).take 4).reverse) = x.length := by
      rw [t1, List.reverse_reverse, ofLowL_lowL]
      exact Nat.mod_eq_of_lt hx
    rw [hj, partL_step (by rw [List.length_append, row4_len]; omega) (by rw [hof, t2, List.length_append]; omega), hof, t2]
    rw [List.drop_append_of_le_length (Nat.le_refl _), List.drop_of_length_le (Nat.le_refl _), List.nil_append, ih]
    simp
/-- What is parted, joined again, is just these bytes. -/
theorem join_part : ∀ (f : Nat) (b : List UInt8) (l : List (List UInt8)), b.length < f → partL b = some l → joinL l = b
  | 0, _, _, h, _ => absurd h (by omega)
  | f + 1, b, l, hf, h => by
    rcases Nat.eq_zero_or_pos b.length with h0 | h0
    · have : b = [] := List.eq_nil_of_length_eq_zero h0
      subst this
      rw [partL_nil] at h
      injection h with h
      subst h
      rfl
    · by_cases h4 : b.length < 4
      · rw [partL_short h0 h4] at h; cases h
      · by_cases hl : (b.drop 4).length < ofLowL (b.take 4).reverse
        · rw [partL_long (by omega) hl] at h; cases h
        · rw [partL_step (by omega) (by omega)] at h
          generalize hm : ofLowL (b.take 4).reverse = m at *
          cases hr : partL ((b.drop 4).drop m) with
          | none => rw [hr] at h; cases h
          | some l' =>
            rw [hr] at h
            simp only [Option.map_some, Option.some.injEq] at h
            subst h
            have ih := join_part f _ l' (by simp only [List.length_drop]; omega) hr
            have hj : joinL ((b.drop 4).take m :: l') = row4 ((b.drop 4).take m) ++ joinL l' := by simp [joinL]
            have hrow : row4 ((b.drop 4).take m) = b.take 4 ++ (b.drop 4).take m := by
              unfold row4
              rw [List.length_take, Nat.min_eq_left (by omega), ← hm, lowL_ofLowL (by simp; omega), List.reverse_reverse]
            rw [hj, ih, hrow, List.append_assoc, List.take_append_drop, List.take_append_drop]
end Go.Proofs.Ytgmolahjmciegaa
