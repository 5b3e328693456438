/-
  Slices of slices of bytes ('Rw'); whether rows may be gone through (Light), and whether two lists of rows are the same (SameRows).
-/
import Derived.Test.YtgmolahjmciegaaRefA
import Derived.Test.YtgmolahjmciegaaSeq
namespace Go.Proofs.Ytgmolahjmciegaa
open Go.ChangeShapes Go.WideShapes Go.ChangeAt Go.RowKit Go.Deep

/-- The slice '.slice A n c' reads as the rows l. -/
def Rw (w : World) (A : Option Addr) (n c : Nat) (l : List (List UInt8)) : Prop :=
  l.length = n ∧ n ≤ c ∧ c ≤ maxLen ∧ (0 < n → ∃ b off, A = some ⟨b, off, none⟩ ∧ b < w.heap.size ∧ ∀ j, j < n → ∃ A' n' c', w.cell? ⟨b, off + j, none⟩ = some (.slice A' n' c') ∧ Bs w A' n' c' (l.getD j []))

section
variable {w w' : World} {A : Option Addr} {n c : Nat} {l : List (List UInt8)}
theorem Rw.len (h : Rw w A n c l) : l.length = n := h.1
theorem Rw.le (h : Rw w A n c l) : n ≤ c := h.2.1
theorem Rw.cap (h : Rw w A n c l) : c ≤ 9223372036854775807 := h.2.2.1
theorem Rw.nil (w : World) : Rw w none 0 0 [] := ⟨rfl, Nat.le_refl _, Nat.zero_le _, fun h => absurd h (by omega)⟩
theorem Rw.pos (h : Rw w A n c l) (hn : 0 < n) : ∃ b off, A = some ⟨b, off, none⟩ ∧ b < w.heap.size ∧ ∀ j, j < n → ∃ A' n' c', w.cell? ⟨b, off + j, none⟩ = some (.slice A' n' c') ∧ Bs w A' n' c' (l.getD j []) := h.2.2.2 hn
theorem Rw.ext (h : Rw w A n c l) (he : Ext w w') : Rw w' A n c l :=
  ⟨h.1, h.2.1, h.2.2.1, fun hn => by
    obtain ⟨b, off, e, hb, hc⟩ := h.2.2.2 hn
    refine ⟨b, off, e, Nat.lt_of_lt_of_le hb he.size, fun j hj => ?_⟩
    obtain ⟨A', n', c', h1, h2⟩ := hc j hj
    exact ⟨A', n', c', (he.cell hb).trans h1, h2.ext he⟩⟩
end

/-- What Light reckons of the first k rows. -/
def lightAt (l : List (List UInt8)) : Nat → Nat
  | 0 => 0
  | k + 1 => lightAt l k + min (l.getD k []).length 10000
theorem lightAt_le (l : List (List UInt8)) : ∀ k, lightAt l k ≤ 10000 * k
  | 0 => by simp [lightAt]
  | k + 1 => by have := lightAt_le l k; rw [lightAt]; omega
def lightB (l : List (List UInt8)) : Bool := decide (l.length ≤ 60) && decide (lightAt l (min l.length 100) < 10000)

set_option maxHeartbeats 400000 in
theorem light_calls {A : Option Addr} {n c : Nat} {l : List (List UInt8)} {w : World} (h : Rw w A n c l) :
    Calls Try.prog 22 #[.slice A n c] w fun e w' => e = .returned (.bool (lightB l)) ∧ w' = w := by
  have h1 := h.le
  have h2 := h.cap
  obtain ⟨m, hm, hm1, hm2, hm3⟩ : ∃ m : Nat, Hid (min l.length 100 = m) ∧ m ≤ n ∧ m ≤ 100 ∧ Hid (m = n ∨ m = 100) := by
    refine ⟨min l.length 100, rfl, ?_, ?_, ?_⟩
    · rw [h.len]; omega
    · omega
    · unfold Hid; rw [h.len]; omega
  go_enter Try.func22, Try.ntmps22
  go_wp2
  go_loop [3, 4] (fun x i => ∃ k : Nat, k ≤ m ∧ i = .int .i64 k ∧ x = .int .i64 (lightAt l k : Int)) (fun _ i => m - (intOf i).toNat)
  case atStart => exact ⟨0, Nat.zero_le _, rfl, rfl⟩
  case round =>
    obtain ⟨k, hk, rfl, rfl⟩ := hrel
    have hle := lightAt_le l k
    by_cases hlt : k < m
    · obtain ⟨b, off, rfl, hb, hc⟩ := h.pos (by omega)
      obtain ⟨A', n', c', g1, g2⟩ := hc k (by omega)
      have hs : Hid ((lightAt l k : Int) + (if (10000 : Int) < (n' : Int) then 10000 else (n' : Int)) = (lightAt l (k + 1) : Int)) := by
        unfold Hid
        rw [lightAt, g2.len]
        by_cases q : 10000 < n'
        · rw [if_pos (by omega)]; omega
        · rw [if_neg (by omega)]; omega
      have t1 : (k : Int) < 100 := by omega
      have t2 : (k : Int) < (n : Int) := by omega
      have t3 := g2.le
      have t4 := g2.cap
      obtain ⟨q, hq, hq1⟩ : ∃ q : Nat, (if (10000 : Int) < (n' : Int) then 10000 else (n' : Int)) = (q : Int) ∧ q ≤ 10000 := by
        by_cases q : 10000 < n'
        · exact ⟨10000, by rw [if_pos (by omega)]; rfl, by omega⟩
        · exact ⟨n', by rw [if_neg (by omega)], by omega⟩
      have hs' : Hid ((lightAt l k : Int) + (q : Int) = (lightAt l (k + 1) : Int)) := by unfold Hid; rw [← hs.out, hq]
      clear hc hs
      go_wp2
      go_round
      case rel => exact ⟨k + 1, by omega, by go_num, congrArg (Value.int .i64) hs'.out⟩
      case measure => simp [intOf]; omega
    · obtain rfl : k = m := by omega
      have hfin : Hid (lightB l = (decide (n ≤ 60) && decide (lightAt l k < 10000))) := by unfold Hid lightB; rw [hm.out, h.len]
      clear hlt
      have fin : ∀ b : Bool, b = (decide (n ≤ 60) && decide (lightAt l k < 10000)) → b = lightB l := fun b e => e.trans hfin.out.symm
      have FIN := Lib.hid fin
      clear fin
      by_cases q6 : n ≤ 60
      · obtain rfl : k = n := by rcases hm3.out with e | e <;> omega
        by_cases q7 : lightAt l k < 10000
        · go_wp2
          go_ret
          exact ⟨ret_bool (FIN.out _ (by simp [q6, q7]; omega)), rfl⟩
        · go_wp2
          go_ret
          exact ⟨ret_bool (FIN.out _ (by simp [q6, q7]; omega)), rfl⟩
      · by_cases q8 : k = n
        · subst q8
          go_wp2
          go_ret
          exact ⟨ret_bool (FIN.out _ (by simp [q6])), rfl⟩
        · obtain rfl : k = 100 := by rcases hm3.out with e | e <;> omega
          have q9 : 100 < n := by omega
          go_wp2
          go_ret
          exact ⟨ret_bool (FIN.out _ (by simp [q6])), rfl⟩

set_option maxHeartbeats 400000 in
theorem sameRows_calls {A A' : Option Addr} {n c n' c' : Nat} {l l' : List (List UInt8)} {w : World} (h : Rw w A n c l) (h' : Rw w A' n' c' l') :
    Calls Try.prog 25 #[.slice A n c, .slice A' n' c'] w fun e w' => e = .returned (.bool (decide (l = l'))) ∧ Ext w w' := by
  have h1 := h.le
  have h2 := h.cap
  have h3 := h'.le
  have h4 := h'.cap
  by_cases hn : n = n'
  · subst hn
    have hl := Lib.hid (h.len.trans h'.len.symm)
    go_enter Try.func25, Try.ntmps25
    go_wp2
    go_loopw [5] (fun i wr => ∃ k : Nat, k ≤ n ∧ i = .int .i64 k ∧ Ext w wr ∧ Hid (∀ j, j < k → l.getD j [] = l'.getD j [])) (fun i _ => n - (intOf i).toNat)
    case atStart => exact ⟨0, Nat.zero_le _, rfl, Ext.refl _, fun j hj => absurd hj (by omega)⟩
    case round =>
      obtain ⟨k, hk, rfl, hE, hall⟩ := hrel
      by_cases hlt : k < n
      · obtain ⟨b, off, rfl, hb, hc⟩ := h.pos (by omega)
        obtain ⟨b', off', rfl, hb', hc'⟩ := h'.pos (by omega)
        obtain ⟨A1, n1, c1, g1, b1⟩ := hc k hlt
        obtain ⟨A2, n2, c2, g2, b2⟩ := hc' k hlt
        clear hc hc'
        have t1 : (0 : Int) ≤ (k : Int) := by omega
        have t2 : (k : Int) < (n : Int) := by omega
        have keep : ∀ w', Ext w w' → (w'.cell? ⟨b, off + k, none⟩ = some (.slice A1 n1 c1) ∧ w'.cell? ⟨b', off' + k, none⟩ = some (.slice A2 n2 c2)) ∧ Sem.run Try.prog (convert 22 9 (.slice A1 n1 c1)) w' = .ok (.string (strL (l.getD k []))) w' ∧ Sem.run Try.prog (convert 22 9 (.slice A2 n2 c2)) w' = .ok (.string (strL (l'.getD k []))) w' :=
          fun w' e => ⟨⟨(e.cell hb).trans g1, (e.cell hb').trans g2⟩, conv_bs (b1.ext e), conv_bs (b2.ext e)⟩
        have KEEP := Lib.hid keep
        clear keep
        generalize hx : l.getD k [] = x at *
        generalize hy : l'.getD k [] = y at *
        have HX := Lib.hid hx
        have HY := Lib.hid hy
        clear hx hy
        by_cases hxy : x = y
        · have hd : ((strL x).toList == (strL y).toList) = true := by rw [hxy]; simp
          have HXY := Lib.hid hxy
          clear hxy
          go_wp2
          refine wp_region_seq (R := Ext) Ext.refl (fun _ _ _ => Ext.trans) [0, 1, 2, 3, 4, 5, 6, 7, 8, 9, 10] [] [(0, 18, 2), (0, 19, 64), (3, 20, 786432), (4, 21, 1048576), (8, 22, 2097152), (0, 23, 4), (0, 24, 64), (96, 25, 25165824), (128, 26, 33554432), (256, 27, 67108864), (528, 28, 138412032)] (by kernel_rfl) (by kernel_rfl) (by kernel_rfl) rfl (by kernel_rfl) (by kernel_rfl) (fun _ _ d _ _ h => by cases d <;> exact h) ?_
          repeat (refine seq_read _ (fun w' e => KEEP.out w' (hE.drew.trans e)) _ (v := ?_) rfl rfl (by rfl) ?_ ?_; rotate_left; (· intro w' hF; go_simp; (try with_reducible rfl)); simp only [Act.put, List.setIfInBounds_toArray, List.set_cons_zero, List.set_cons_succ])
          refine seq_done ?_
          go_wp2
          go_roundw
          case rel => exact ⟨k + 1, by omega, by go_num, hE.drew, fun j hj => by
            rcases Nat.lt_or_ge j k with q | q
            · exact hall.out j q
            · obtain rfl : j = k := by omega
              rw [HX.out, HY.out, HXY.out]⟩
          case measure => simp [intOf]; omega
        · have hd : ((strL x).toList == (strL y).toList) = false := by rw [strL_toList, strL_toList]; simp [hxy]
          go_wp2
          refine wp_region_seq (R := Ext) Ext.refl (fun _ _ _ => Ext.trans) [0, 1, 2, 3, 4, 5, 6, 7, 8, 9, 10] [] [(0, 18, 2), (0, 19, 64), (3, 20, 786432), (4, 21, 1048576), (8, 22, 2097152), (0, 23, 4), (0, 24, 64), (96, 25, 25165824), (128, 26, 33554432), (256, 27, 67108864), (528, 28, 138412032)] (by kernel_rfl) (by kernel_rfl) (by kernel_rfl) rfl (by kernel_rfl) (by kernel_rfl) (fun _ _ d _ _ h => by cases d <;> exact h) ?_
          repeat (refine seq_read _ (fun w' e => KEEP.out w' (hE.drew.trans e)) _ (v := ?_) rfl rfl (by rfl) ?_ ?_; rotate_left; (· intro w' hF; go_simp; (try with_reducible rfl)); simp only [Act.put, List.setIfInBounds_toArray, List.set_cons_zero, List.set_cons_succ])
          refine seq_done ?_
          go_wp2
          go_ret
          refine ⟨ret_bool ?_, hE.drew⟩
          have : l ≠ l' := fun e => hxy (by rw [← HX.out, ← HY.out, e])
          simp [this]
      · obtain rfl : k = n := by omega
        go_wp2
        go_ret
        refine ⟨ret_bool ?_, hE⟩
        have : l = l' := by
          refine List.ext_getElem hl.out fun j e1 e2 => ?_
          have := hall.out j (by rw [← h.len]; exact e1)
          simpa [List.getD, e1, e2] using this
        simp [this]
  · have hb : ((n : Int) != (n' : Int)) = true := by rw [bne_iff_ne]; omega
    go_enter Try.func25, Try.ntmps25
    go_wp2
    go_ret
    refine ⟨?_, Ext.refl _⟩
    have : l ≠ l' := fun e => hn (by rw [← h.len, ← h'.len, e])
    simp [this]
end Go.Proofs.Ytgmolahjmciegaa
