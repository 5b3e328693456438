/-
  Two lists of rows are the same (SameRows), where the program holds no Light.
-/
import Derived.Test.YteaoacinhdjkeaaRwC
import Derived.Test.YteaoacinhdjkeaaSeq
namespace Go.Proofs.Yteaoacinhdjkeaa
open Go.ChangeShapes Go.WideShapes Go.ChangeAt Go.RowKit Go.Deep

theorem strL_toList22 (xs : List UInt8) : (strL xs).toList = xs := by
  rw [ByteArray.toList_eq]
  rfl
set_option maxHeartbeats 400000 in
theorem sameRows_calls {A A' : Option Addr} {n c n' c' : Nat} {l l' : List (List UInt8)} {w : World} (h : Rw w A n c l) (h' : Rw w A' n' c' l') :
    Calls Try.prog 24 #[.slice A n c, .slice A' n' c'] w fun e w' => e = .returned (.bool (decide (l = l'))) ∧ Ext w w' := by
  have h1 := h.le
  have h2 := h.cap
  have h3 := h'.le
  have h4 := h'.cap
  by_cases hn : n = n'
  · subst hn
    have hl := Lib.hid (h.len.trans h'.len.symm)
    go_enter Try.func24, Try.ntmps24
    go_wp2
    go_loopw [5] (fun i wr => ∃ k : Nat, k ≤ n ∧ i = .int .i64 k ∧ Ext w wr ∧ Hid (∀ j, j < k → l.getD j [] = l'.getD j [])) (fun i _ => n - (intOf i).toNat)
    case atStart => exact ⟨0, Nat.zero_le _, rfl, Ext.refl _, fun j hj => absurd hj (by omega)⟩
    case round =>
      obtain ⟨k, hk, rfl, hE, hall⟩ := hrel
      by_cases hlt : k < n
      · obtain ⟨b, off, rfl, hb, hc⟩ := h.pos (by omega)
        obtain ⟨b', off', rfl, hb', hc'⟩ := h'.pos (by omega)
        obtain ⟨A1, n1, c1, g1, b1⟩ := hc k hlt
        obtain ⟨A2, n2, c2, g2, b2⟩ := hc' k hlt
        clear hc hc'
        have t1 : (0 : Int) ≤ (k : Int) := by omega
        have t2 : (k : Int) < (n : Int) := by omega
        have keep : ∀ w', Ext w w' → (w'.cell? ⟨b, off + k, none⟩ = some (.slice A1 n1 c1) ∧ w'.cell? ⟨b', off' + k, none⟩ = some (.slice A2 n2 c2)) ∧ Sem.run Try.prog (convert 37 9 (.slice A1 n1 c1)) w' = .ok (.string (strL (l.getD k []))) w' ∧ Sem.run Try.prog (convert 37 9 (.slice A2 n2 c2)) w' = .ok (.string (strL (l'.getD k []))) w' :=
          fun w' e => ⟨⟨(e.cell hb).trans g1, (e.cell hb').trans g2⟩, conv_bs (b1.ext e), conv_bs (b2.ext e)⟩
        have KEEP := Lib.hid keep
        clear keep
        generalize hx : l.getD k [] = x at *
        generalize hy : l'.getD k [] = y at *
        have HX := Lib.hid hx
        have HY := Lib.hid hy
        clear hx hy
        by_cases hxy : x = y
        · have hd : ((strL x).toList == (strL y).toList) = true := by rw [hxy]; simp
          have HXY := Lib.hid hxy
          clear hxy
          go_wp2
          refine qgE [0, 1, 2, 3, 4, 5, 6, 7, 8, 9, 10] [] ?_
          repeat ((first | refine qR _ (fun w' e => KEEP.out w' (hE.drew.trans e)) ?_ | refine qS ?_); go_frame)
          refine seq_done ?_
          go_wp2
          go_roundw
          case rel => exact ⟨k + 1, by omega, by go_num, hE.drew, fun j hj => by
            rcases Nat.lt_or_ge j k with q | q
            · exact hall.out j q
            · obtain rfl : j = k := by omega
              rw [HX.out, HY.out, HXY.out]⟩
          case measure => simp [intOf]; omega
        · have hd : ((strL x).toList == (strL y).toList) = false := by rw [strL_toList22, strL_toList22]; simp [hxy]
          go_wp2
          refine qgE [0, 1, 2, 3, 4, 5, 6, 7, 8, 9, 10] [] ?_
          repeat ((first | refine qR _ (fun w' e => KEEP.out w' (hE.drew.trans e)) ?_ | refine qS ?_); go_frame)
          refine seq_done ?_
          go_wp2
          go_ret
          refine ⟨ret_bool ?_, hE.drew⟩
          have : l ≠ l' := fun e => hxy (by rw [← HX.out, ← HY.out, e])
          simp [this]
      · obtain rfl : k = n := by omega
        go_wp2
        go_ret
        refine ⟨ret_bool ?_, hE⟩
        have : l = l' := by
          refine List.ext_getElem hl.out fun j e1 e2 => ?_
          have := hall.out j (by rw [← h.len]; exact e1)
          simpa [List.getD, e1, e2] using this
        simp [this]
  · have hb : ((n : Int) != (n' : Int)) = true := by rw [bne_iff_ne]; omega
    go_enter Try.func24, Try.ntmps24
    go_wp2
    go_ret
    refine ⟨?_, Ext.refl _⟩
    have : l ≠ l' := fun e => hn (by rw [← h.len, ← h'.len, e])
    simp [this]
end Go.Proofs.Yteaoacinhdjkeaa
