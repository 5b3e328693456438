/-
  The document's Join.
-/
import Derived.Test.YthdjojindijmnaaDoorJoinB
import Derived.Test.YthdjojindijmnaaDoorRefHigh
namespace Go.Proofs.YthdjojindijmnaaDoor
open Go.ChangeShapes Go.WideShapes Go.ChangeAt Go.RowKit Go.Deep

set_option maxHeartbeats 1000000 in
theorem refJoin_calls {A : Option Addr} {n c : Nat} {l : List (List UInt8)} {w : World} (h : Rw w A n c l) (hm : (joinL l).length ≤ 100000000) :
    Calls Tryd.prog 32 #[.slice A n c] w (RetBs (joinL l) w) := by
  have h1 := h.le
  have h2 := h.cap
  go_enter Tryd.func32, Tryd.ntmps32
  go_wp2
  go_loopw [3, 4] (fun v i wr => ∃ (j cc : Nat) (D : Option Addr), j ≤ n ∧ i = .int .i64 j ∧ v = .slice D (sizeAt l j) cc ∧ Own w.heap.size wr D (sizeAt l j) cc (joinL (l.take j)) ∧ Ext w wr) (fun _ i _ => n - (intOf i).toNat)
  case atStart => exact ⟨0, _, _, Nat.zero_le _, rfl, rfl, Own.nil _ _, Ext.refl w⟩
  case round =>
    obtain ⟨j, cc, D, hj, rfl, rfl, ho, hE⟩ := hrel
    by_cases hlj : j < n
    · obtain ⟨b, off, rfl, hb, hc⟩ := h.pos (by omega)
      obtain ⟨A', n', c', g1', g2⟩ := hc j (by omega)
      have t3 := g2.le
      have t4 := g2.cap
      have hszj := hE.size
      have hb1 : sizeAt l (j + 1) ≤ 100000000 := Nat.le_trans (joinL_le l (j + 1)) hm
      have hs : Hid (sizeAt l (j + 1) = sizeAt l j + 4 + n') := by
        unfold Hid sizeAt
        rw [joinL_len_snoc (by rw [h.len]; omega), g2.len]
        omega
      have hb2 : n' + 4 + sizeAt l j ≤ 100000000 := by have := hs.out; omega
      have hjn : Hid (joinL (l.take (j + 1)) = joinL (l.take j) ++ (lowL n' 4).reverse ++ l.getD j []) := by
        unfold Hid
        rw [joinL_snoc (by rw [h.len]; omega), row4, g2.len, List.append_assoc]
      have q1 : (0 : Int) ≤ (j : Int) := by omega
      have q2 : (j : Int) < (n : Int) := by omega
      have q3 : (n' : Int).toNat = n' := by omega
      have q4 : IntKind.u64.wrap (n' : Int) = (n' : Int) := IntWalk.u64_in _ (by omega)
      have KEEP : Hid (∀ w', Ext w w' → w'.cell? ⟨b, off + j, none⟩ = some (.slice A' n' c')) := fun w' e => (e.cell hb).trans g1'
      clear hc g1'
      go_wp2
      refine wp_region_seq (R := Below w.heap.size) (Below.refl _) (fun _ _ _ => Below.trans) [0, 1, 2, 3, 4, 5, 6, 9, 10, 11, 12, 7, 8, 13, 14] [7, 8, 13] [(0, 12, 16), (0, 13, 2), (0, 14, 32), (6, 15, 24576), (8, 16, 32768), (16, 17, 65536), (32, 18, 131072), (64, 19, 262144), (129, 20, 528384), (0, 21, 2), (0, 22, 32), (1536, 23, 6291456), (2048, 24, 8388608), (4352, 25, 17825792), (16383, 4, 33554432)] (by kernel_rfl) (by kernel_rfl) (by kernel_rfl) rfl (by kernel_rfl) (by kernel_rfl) (fun _ _ d _ _ h => by cases d <;> exact h) ?_
      repeat (first | (refine seq_read _ (fun w' e => KEEP.out w' (hE.drew.trans' e)) _ (v := ?_) rfl rfl (by rfl) ?_ ?_; rotate_left; (· intro w' hF; go_simp; (try with_reducible rfl)); simp only [Act.put, List.setIfInBounds_toArray, List.set_cons_zero, List.set_cons_succ]) | (refine seq_skip _ rfl rfl (by rfl) ?_; simp only [Act.put, List.setIfInBounds_toArray, List.set_cons_zero, List.set_cons_succ]))
      refine seq_do _ rfl rfl (by rfl) (fun K hK => ?_)
      go_simp
      refine (refHigh_calls (m := 4) (by omega) (by omega) (by omega) (by omega) (by omega)).mono ?_
      rintro e w1 ⟨A1, n1, c1, rfl, b1, e1⟩
      obtain rfl : n1 = 4 := by rw [← b1.len, List.length_reverse, lowL_len]
      refine hK.out _ _ (e1.mono hE.drew.size) ?_
      clear hK K
      try simp only [Act.put, List.setIfInBounds_toArray, List.set_cons_zero, List.set_cons_succ]
      have hE1 := hE.drew.trans e1
      repeat (first | (refine seq_read _ (fun w' e => KEEP.out w' (hE1.trans' e)) _ (v := ?_) rfl rfl (by rfl) ?_ ?_; rotate_left; (· intro w' hF; go_simp; (try with_reducible rfl)); simp only [Act.put, List.setIfInBounds_toArray, List.set_cons_zero, List.set_cons_succ]) | (refine seq_skip _ rfl rfl (by rfl) ?_; simp only [Act.put, List.setIfInBounds_toArray, List.set_cons_zero, List.set_cons_succ]))
      refine seq_do _ rfl rfl (by rfl) (fun K hK => ?_)
      refine wp_append_bs rfl rfl rfl (ho.drew.ext e1) b1 (by omega) hE1.size ?_
      intro D' cc' w2 ho2 hg2 hbl
      refine hK.out _ _ hbl ?_
      clear hK K
      try simp only [Act.put, List.setIfInBounds_toArray, List.set_cons_zero, List.set_cons_succ]
      repeat (first | (refine seq_read _ (fun w' e => KEEP.out w' ((hE1.trans' hbl).trans' e)) _ (v := ?_) rfl rfl (by rfl) ?_ ?_; rotate_left; (· intro w' hF; go_simp; (try with_reducible rfl)); simp only [Act.put, List.setIfInBounds_toArray, List.set_cons_zero, List.set_cons_succ]) | (refine seq_skip _ rfl rfl (by rfl) ?_; simp only [Act.put, List.setIfInBounds_toArray, List.set_cons_zero, List.set_cons_succ]))
      refine seq_do _ rfl rfl (by rfl) (fun K hK => ?_)
      refine wp_append_bs rfl rfl rfl ho2 (g2.ext (hE1.trans' hbl)) (by omega) (hE1.trans' hbl).size ?_
      intro D3 cc3 w3 ho3 hg3 hbl3
      refine hK.out _ _ hbl3 ?_
      clear hK K
      try simp only [Act.put, List.setIfInBounds_toArray, List.set_cons_zero, List.set_cons_succ]
      repeat (first | (refine seq_read _ (fun w' e => KEEP.out w' (((hE1.trans' hbl).trans' hbl3).trans' e)) _ (v := ?_) rfl rfl (by rfl) ?_ ?_; rotate_left; (· intro w' hF; go_simp; (try with_reducible rfl)); simp only [Act.put, List.setIfInBounds_toArray, List.set_cons_zero, List.set_cons_succ]) | (refine seq_skip _ rfl rfl (by rfl) ?_; simp only [Act.put, List.setIfInBounds_toArray, List.set_cons_zero, List.set_cons_succ]))
      refine seq_done ?_
      go_wp2
      go_roundw
      case rel => exact ⟨j + 1, cc3, D3, by omega, by go_num, by rw [hs.out], by rw [hs.out, hjn.out]; exact ho3, (hE1.trans' hbl).trans' hbl3⟩
      case measure => simp [intOf]; omega
    · obtain rfl : j = n := by omega
      go_wp2
      go_ret
      exact ⟨_, _, _, rfl, by have := ho.bs; rwa [List.take_of_length_le (by rw [h.len]; omega)] at this, hE⟩
end Go.Proofs.YthdjojindijmnaaDoor
