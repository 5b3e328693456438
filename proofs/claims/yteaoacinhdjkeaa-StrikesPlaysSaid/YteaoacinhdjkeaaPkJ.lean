import Derived.Test.YteaoacinhdjkeaaPkK
import Derived.Test.YteaoacinhdjkeaaDkC
import Derived.Test.YteaoacinhdjkeaaPkM
import Derived.Test.YteaoacinhdjkeaaSeq
section
/-
  The journal's mathematics where a disk may die: what a crash leaves.
-/
namespace Go.Proofs.Yteaoacinhdjkeaa
open Go.ChangeShapes Go.WideShapes Go.ChangeAt Go.RowKit Go.Deep Go.Maps
set_option maxRecDepth 100000

/-- Nothing is pending, and the sectors hold just these records. -/
structure Cr22 (d : Ds) (m : Nat) (L : List (List UInt8)) : Prop where
  len : d.S.length = m
  le : L.length ≤ m
  sh : ∀ j, j < L.length → (L.getD j []).length ≤ 59
  nn : ∀ i, d.N i = none
  sv : ∀ j, j < m → d.S.getD j [] = if j < L.length then secL j (L.getD j []) else List.replicate 64 0
section
variable {d : Ds} {m : Nat} {L : List (List UInt8)}
theorem Cr22.rd (h : Cr22 d m L) {j : Nat} (hj : j < m) : d.read (j : Int) = if j < L.length then secL j (L.getD j []) else List.replicate 64 0 := by
  unfold Ds.read
  rw [if_pos ⟨by omega, by rw [h.len]; omega⟩, Int.toNat_natCast, h.nn, Option.getD_none]
  exact h.sv j hj
theorem Cr22.recs (h : Cr22 d m L) (hm : m ≤ 64) : d.recs = L := by
  refine (Pre22.full ⟨by rw [h.len]; exact h.le, fun j hj => ?_⟩ ?_).symm
  · rw [h.rd (Nat.lt_of_lt_of_le hj h.le), if_pos hj]
    exact recL_sec (h.sh j hj) (by have := h.le; omega)
  · by_cases q : L.length = m
    · left; rw [h.len]; exact q
    · right
      rw [h.rd (by have := h.le; omega), if_neg (Nat.lt_irrefl _)]
      exact recL_nought _
theorem Cr22.new (h : 1 ≤ m) : Cr22 (newD m) m [] := by
  refine ⟨by simp [newD], Nat.zero_le _, fun j hj => absurd hj (Nat.not_lt_zero _), fun i => rfl, fun j hj => ?_⟩
  rw [if_neg (show ¬ j < ([] : List (List UInt8)).length from Nat.not_lt_zero _)]
  show (List.replicate m (List.replicate 64 0)).getD j [] = _
  rw [List.getD_eq_getElem?_getD, List.getElem?_replicate, if_pos hj]
  rfl
theorem Cr22.like (h : Cr22 d m L) {e : Ds} (hS : e.S = d.S) (hN : e.N = d.N) : Cr22 e m L := ⟨by rw [hS]; exact h.len, h.le, h.sh, fun i => by rw [hN]; exact h.nn i, fun j hj => by rw [hS]; exact h.sv j hj⟩
theorem Cr22.crash (h : Cr22 d m L) (kept : Nat) : Cr22 (d.crash kept) m L := by
  refine ⟨(crash_S d kept).trans h.len, h.le, h.sh, fun i => rfl, fun j hj => ?_⟩
  rcases crS_at (d := d) (kept := kept) (m := d.S.length) j _ (Nat.le_refl _) with q | ⟨s, q, _⟩
  · exact q.trans (h.sv j hj)
  · rw [h.nn] at q; cases q
/-- One sector more, behind a write. -/
theorem snoc_sv {x : List UInt8} (h : Cr22 d m L) (hl : L.length < m) {S : List (List UInt8)} (hS : ∀ j, j < m → S.getD j [] = if j = L.length then secL L.length x else d.S.getD j []) :
    ∀ j, j < m → S.getD j [] = if j < (L ++ [x]).length then secL j ((L ++ [x]).getD j []) else List.replicate 64 0 := fun j hj => by
  rw [hS j hj]
  by_cases z : j < L.length
  · rw [if_neg (by omega), h.sv j hj, if_pos z, if_pos (by simp; omega)]
    congr 1
    rw [List.getD_eq_getElem?_getD, List.getD_eq_getElem?_getD, List.getElem?_append_left z]
  · by_cases z2 : j = L.length
    · subst z2
      rw [if_pos rfl, if_pos (by simp)]
      simp [List.getD]
    · rw [if_neg z2, h.sv j hj, if_neg z, if_neg (by simp; omega)]
theorem snoc_sh {x : List UInt8} (h : Cr22 d m L) (hx : x.length ≤ 59) : ∀ j, j < (L ++ [x]).length → ((L ++ [x]).getD j []).length ≤ 59 := fun j hj => by
  by_cases z : j < L.length
  · rw [List.getD_eq_getElem?_getD, List.getElem?_append_left z, ← List.getD_eq_getElem?_getD]; exact h.sh j z
  · obtain rfl : j = L.length := by simp at hj; omega
    simpa [List.getD] using hx

/-- In a round: either all is well, or the disk is dead and U is what was under way. -/
def St22 (d : Ds) (m : Nat) (L U : List (List UInt8)) : Prop :=
  (U = [] ∧ Cr22 d m L ∧ d.dd = false) ∨ ∃ x, U = [x] ∧ d.dd = true ∧ d.S.length = m ∧ x.length ≤ 59 ∧ L.length < m ∧ ∀ kept, Cr22 (d.crash kept) m L ∨ Cr22 (d.crash kept) m (L ++ [x])
theorem St22.len {U : List (List UInt8)} (h : St22 d m L U) : d.S.length = m := by
  rcases h with ⟨_, h, _⟩ | ⟨_, _, _, h, _⟩
  · exact h.len
  · exact h
theorem St22.crash {U : List (List UInt8)} (h : St22 d m L U) (kept : Nat) : Cr22 (d.crash kept) m L ∨ Cr22 (d.crash kept) m (L ++ U) := by
  rcases h with ⟨_, h, _⟩ | ⟨x, rfl, _, _, _, _, h⟩
  · exact .inl (h.crash kept)
  · exact h kept
theorem burn_dead {e : Ds} (h : e.fails = true) : e.burn = { e with dd := true } := by unfold Ds.burn; rw [if_pos h]
theorem burn_dd {e : Ds} (h : e.fails = false) : e.burn.dd = false := by
  have z : e.dd = false := by
    unfold Ds.fails at h
    simp only [Bool.or_eq_false_iff] at h
    exact h.1
  unfold Ds.burn
  rw [if_neg (by rw [h]; decide)]
  split <;> exact z
theorem dead_same {e : Ds} (h : e.dd = true) : { e with dd := true } = e := by
  cases e
  simp only at h
  rw [h]
/-- One Append in a round. -/
theorem St22.step {U : List (List UInt8)} (h : St22 d m L U) {x : List UInt8} (hx : x.length ≤ 59) (hl : L.length < m) :
    (d.jE L.length x = 0 ∧ U = [] ∧ St22 (d.jD L.length x) m (L ++ [x]) [] ∧ d.jL L x = L ++ [x]) ∨ (d.jE L.length x = 13 ∧ St22 (d.jD L.length x) m L (if U.length = 0 then [x] else U) ∧ d.jL L x = L) := by
  have hE : d.jE L.length x = if d.fails then 13 else if (d.write (L.length : Int) (secL L.length x)).fails then 13 else 0 := by unfold Ds.jE; rw [if_neg (by omega), if_neg (by rw [h.len]; omega)]
  have hD : d.jD L.length x = if d.fails then d.burn else if (d.write (L.length : Int) (secL L.length x)).fails then (d.write (L.length : Int) (secL L.length x)).burn else (d.write (L.length : Int) (secL L.length x)).burn.flush := by unfold Ds.jD; rw [if_neg (by omega), if_neg (by rw [h.len]; omega)]
  have hin : 0 ≤ (L.length : Int) ∧ (L.length : Int) < (d.S.length : Int) := ⟨by omega, by rw [h.len]; omega⟩
  by_cases hf : d.fails = true
  · rw [if_pos hf] at hE hD
    right
    refine ⟨hE, ?_, by unfold Ds.jL; rw [hE]; rfl⟩
    have hb : d.burn = { d with dd := true } := burn_dead hf
    rw [hD, hb]
    rcases h with ⟨rfl, h, _⟩ | ⟨y, rfl, h1, h2, h3, h4, h5⟩
    · exact .inr ⟨x, rfl, rfl, h.len, hx, hl, fun kept => .inl ((h.like (e := { d with dd := true }) rfl rfl).crash kept)⟩
    · rw [dead_same h1]
      exact .inr ⟨y, rfl, h1, h2, h3, h4, h5⟩
  · have hf' : d.fails = false := by simpa using hf
    rw [if_neg hf] at hE hD
    rcases h with ⟨rfl, h, hdd⟩ | ⟨y, rfl, h1, _⟩
    · have hw : d.write (L.length : Int) (secL L.length x) = d.burn.put L.length (secL L.length x) := by
        unfold Ds.write
        rw [if_pos hin, if_neg hf, Int.toNat_natCast]
      have bS : d.burn.S = d.S := burn_S d
      have bN : d.burn.N = d.N := burn_N d
      rw [hw] at hE hD
      by_cases hg : (d.burn.put L.length (secL L.length x)).fails = true
      · rw [if_pos hg] at hE hD
        right
        refine ⟨hE, ?_, by unfold Ds.jL; rw [hE]; rfl⟩
        have hb := burn_dead hg
        rw [hD, hb]
        refine .inr ⟨x, rfl, rfl, by show d.burn.S.length = m; rw [bS]; exact h.len, hx, hl, fun kept => ?_⟩
        have e1 : ∀ e : Ds, e.S = d.S → (e.N = fun j => if j = L.length then some (secL L.length x) else d.burn.N j) → Cr22 (e.crash kept) m L ∨ Cr22 (e.crash kept) m (L ++ [x]) := fun e hS hN => by
          have at_ := fun j => crS_at (d := e) (kept := kept) (m := e.S.length) j _ (Nat.le_refl _)
          have hlen : (e.crash kept).S.length = m := (crash_S e kept).trans (by rw [hS]; exact h.len)
          have off : ∀ j, j ≠ L.length → (e.crash kept).S.getD j [] = d.S.getD j [] := fun j hj => by
            rcases at_ j with q | ⟨s, q, _⟩
            · exact q.trans (by rw [hS])
            · rw [hN] at q
              simp only [if_neg hj, bN, h.nn] at q
              cases q
          rcases at_ L.length with q | ⟨s, q, q2⟩
          · refine .inl ⟨hlen, h.le, h.sh, fun i => rfl, fun j hj => ?_⟩
            by_cases z : j = L.length
            · rw [z]; exact (q.trans (by rw [hS])).trans (h.sv _ hl)
            · rw [off j z]; exact h.sv j hj
          · rw [hN] at q
            simp only [if_pos] at q
            cases q
            refine .inr ⟨hlen, by simp; omega, snoc_sh h hx, fun i => rfl, snoc_sv h hl fun j hj => ?_⟩
            by_cases z : j = L.length
            · rw [if_pos z, z]; exact q2
            · rw [if_neg z]; exact off j z
        exact e1 _ bS rfl
      · rw [if_neg hg] at hE hD
        have hg' : (d.burn.put L.length (secL L.length x)).fails = false := by simpa using hg
        left
        refine ⟨hE, rfl, ?_, by unfold Ds.jL; rw [hE]; rfl⟩
        rw [hD]
        have b2S : (d.burn.put L.length (secL L.length x)).burn.S = d.S := (burn_S _).trans bS
        have b2N : (d.burn.put L.length (secL L.length x)).burn.N = fun j => if j = L.length then some (secL L.length x) else d.burn.N j := (burn_N _).trans rfl
        have b2d := burn_dd hg'
        refine .inl ⟨rfl, ⟨by simp [Ds.flush, b2S, h.len], by simp; omega, snoc_sh h hx, fun i => rfl, snoc_sv h hl fun j hj => ?_⟩, b2d⟩
        show ((List.range (d.burn.put L.length (secL L.length x)).burn.S.length).map fun i => ((d.burn.put L.length (secL L.length x)).burn.N i).getD ((d.burn.put L.length (secL L.length x)).burn.S.getD i [])).getD j [] = _
        rw [b2S, b2N, List.getD_eq_getElem?_getD, List.getElem?_map, List.getElem?_range (by rw [h.len]; exact hj)]
        simp only [Option.map_some, Option.getD_some]
        by_cases z : j = L.length
        · rw [if_pos z, if_pos z]; rfl
        · rw [if_neg z, if_neg z, bN, h.nn]; rfl
    · unfold Ds.fails at hf'
      rw [h1] at hf'
      cases hf'
end
end Go.Proofs.Yteaoacinhdjkeaa
end

section
/-
  Two lists of rows are the same (SameRows), where the program holds no Light.
-/
namespace Go.Proofs.Yteaoacinhdjkeaa
open Go.ChangeShapes Go.WideShapes Go.ChangeAt Go.RowKit Go.Deep

theorem strL_toList22 (xs : List UInt8) : (strL xs).toList = xs := by
  rw [ByteArray.toList_eq]
  rfl
set_option maxHeartbeats 400000 in
theorem sameRows_calls {A A' : Option Addr} {n c n' c' : Nat} {l l' : List (List UInt8)} {w : World} (h : Rw w A n c l) (h' : Rw w A' n' c' l') :
    Calls Try.prog 24 #[.slice A n c, .slice A' n' c'] w fun e w' => e = .returned (.bool (decide (l = l'))) ∧ Ext w w' := by
  have h1 := h.le
  have h2 := h.cap
  have h3 := h'.le
  have h4 := h'.cap
  by_cases hn : n = n'
  · subst hn
    have hl := Lib.hid (h.len.trans h'.len.symm)
    go_enter Try.func24, Try.ntmps24
    go_wp2
    go_loopw [5] (fun i wr => ∃ k : Nat, k ≤ n ∧ i = .int .i64 k ∧ Ext w wr ∧ Hid (∀ j, j < k → l.getD j [] = l'.getD j [])) (fun i _ => n - (intOf i).toNat)
    case atStart => exact ⟨0, Nat.zero_le _, rfl, Ext.refl _, fun j hj => absurd hj (by omega)⟩
    case round =>
      obtain ⟨k, hk, rfl, hE, hall⟩ := hrel
      by_cases hlt : k < n
      · obtain ⟨b, off, rfl, hb, hc⟩ := h.pos (by omega)
        obtain ⟨b', off', rfl, hb', hc'⟩ := h'.pos (by omega)
        obtain ⟨A1, n1, c1, g1, b1⟩ := hc k hlt
        obtain ⟨A2, n2, c2, g2, b2⟩ := hc' k hlt
        clear hc hc'
        have t1 : (0 : Int) ≤ (k : Int) := by omega
        have t2 : (k : Int) < (n : Int) := by omega
        have keep : ∀ w', Ext w w' → (w'.cell? ⟨b, off + k, none⟩ = some (.slice A1 n1 c1) ∧ w'.cell? ⟨b', off' + k, none⟩ = some (.slice A2 n2 c2)) ∧ Sem.run Try.prog (convert 37 9 (.slice A1 n1 c1)) w' = .ok (.string (strL (l.getD k []))) w' ∧ Sem.run Try.prog (convert 37 9 (.slice A2 n2 c2)) w' = .ok (.string (strL (l'.getD k []))) w' :=
          fun w' e => ⟨⟨(e.cell hb).trans g1, (e.cell hb').trans g2⟩, conv_bs (b1.ext e), conv_bs (b2.ext e)⟩
        have KEEP := Lib.hid keep
        clear keep
        generalize hx : l.getD k [] = x at *
        generalize hy : l'.getD k [] = y at *
        have HX := Lib.hid hx
        have HY := Lib.hid hy
        clear hx hy
        by_cases hxy : x = y
        · have hd : ((strL x).toList == (strL y).toList) = true := by rw [hxy]; simp
          have HXY := Lib.hid hxy
          clear hxy
          go_wp2
          refine qgE [0, 1, 2, 3, 4, 5, 6, 7, 8, 9, 10] [] ?_
          repeat ((first | refine qR _ (fun w' e => KEEP.out w' (hE.drew.trans e)) ?_ | refine qS ?_); go_frame)
          refine seq_done ?_
          go_wp2
          go_roundw
          case rel => exact ⟨k + 1, by omega, by go_num, hE.drew, fun j hj => by
            rcases Nat.lt_or_ge j k with q | q
            · exact hall.out j q
            · obtain rfl : j = k := by omega
              rw [HX.out, HY.out, HXY.out]⟩
          case measure => simp [intOf]; omega
        · have hd : ((strL x).toList == (strL y).toList) = false := by rw [strL_toList22, strL_toList22]; simp [hxy]
          go_wp2
          refine qgE [0, 1, 2, 3, 4, 5, 6, 7, 8, 9, 10] [] ?_
          repeat ((first | refine qR _ (fun w' e => KEEP.out w' (hE.drew.trans e)) ?_ | refine qS ?_); go_frame)
          refine seq_done ?_
          go_wp2
          go_ret
          refine ⟨ret_bool ?_, hE.drew⟩
          have : l ≠ l' := fun e => hxy (by rw [← HX.out, ← HY.out, e])
          simp [this]
      · obtain rfl : k = n := by omega
        go_wp2
        go_ret
        refine ⟨ret_bool ?_, hE⟩
        have : l = l' := by
          refine List.ext_getElem hl.out fun j e1 e2 => ?_
          have := hall.out j (by rw [← h.len]; exact e1)
          simpa [List.getD, e1, e2] using this
        simp [this]
  · have hb : ((n : Int) != (n' : Int)) = true := by rw [bne_iff_ne]; omega
    go_enter Try.func24, Try.ntmps24
    go_wp2
    go_ret
    refine ⟨?_, Ext.refl _⟩
    have : l ≠ l' := fun e => hn (by rw [← h.len, ← h'.len, e])
    simp [this]
end Go.Proofs.Yteaoacinhdjkeaa
end
