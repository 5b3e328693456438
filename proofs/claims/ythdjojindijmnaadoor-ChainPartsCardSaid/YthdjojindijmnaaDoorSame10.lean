/-
  The document's Same (layer 10), of two rows that are the same.
-/
import Derived.Test.YthdjojindijmnaaDoorOwnK
namespace Go.Proofs.YthdjojindijmnaaDoor
open Go.ChangeShapes Go.WideShapes Go.ChangeAt Go.RowKit Go.Deep

set_option maxRecDepth 100000 in
set_option maxHeartbeats 1000000 in
theorem same10_calls {A B : Option Addr} {n c d : Nat} {l : List (List UInt8)} {w : World} (hA : Kl w A n l) (hB : Kl w B n l) (hn : n ≤ 1000) :
    Calls Tryd.prog 29 #[.slice A n c, .slice B n d] w fun e w' => e = .returned (.bool true) ∧ Ext w w' := by
  replace hA := Lib.hid hA
  replace hB := Lib.hid hB
  have nn : ((n : Int) != (n : Int)) = false := by simp
  go_enter Tryd.func29, Tryd.ntmps29
  go_wp2_with fail
  go_loopw [5] (fun v wr => ∃ k : Nat, k ≤ n ∧ v = .int .i64 (k : Int) ∧ Ext w wr) (fun v _ => n - (intOf v).toNat)
  case atStart => exact ⟨0, Nat.zero_le _, rfl, Ext.refl _⟩
  case round =>
    obtain ⟨k, hkn, rfl, he⟩ := hrel
    by_cases hlt : k < n
    · have ik : (k : Int) < (n : Int) := by omega
      obtain ⟨b, rfl, hb, hc⟩ := hA.out.2.2 (by omega)
      obtain ⟨b', rfl, hb', hc'⟩ := hB.out.2.2 (by omega)
      have L : (l.getD k []).length = 32 := hA.out.2.1 _ (by have := hA.out.1; simp [List.getD, show k < l.length by omega])
      have h1 := Lib.hid (hc k hlt)
      have h2 := Lib.hid (hc' k hlt)
      clear hc hc'
      generalize l.getD k [] = x at *
      have C : (cellsOf x).length = 32 := by rw [cellsOf_len, L]
      have he' := Lib.hid he
      have RA : Hid (∀ w', Ext wr w' → ∀ i v, (cellsOf x)[i]? = some v → w'.cell? ⟨b, k * 32 + i, none⟩ = some v) := fun w' e i v hv => ((he'.out.trans e).cell hb).trans (by rw [Nat.mul_comm]; exact h1.out i v hv)
      have RB : Hid (∀ w', Ext wr w' → ∀ i v, (cellsOf x)[i]? = some v → w'.cell? ⟨b', k * 32 + i, none⟩ = some v) := fun w' e i v hv => ((he'.out.trans e).cell hb').trans (by rw [Nat.mul_comm]; exact h2.out i v hv)
      clear h1 h2 he
      go_wp2_with fail
      refine wp_region_seq (R := Ext) Ext.refl (fun _ _ _ => Ext.trans) [0, 1, 2, 3, 4, 5, 6, 7, 8] [] [(0, 18, 2), (0, 19, 64), (3, 20, 786432), (4, 21, 1048576), (0, 22, 4), (0, 23, 64), (48, 24, 12582912), (64, 25, 16777216), (136, 26, 35651584)] (by kernel_rfl) (by kernel_rfl) (by kernel_rfl) rfl (by kernel_rfl) (by kernel_rfl) (fun _ _ d _ _ h => by cases d <;> exact h) ?_
      iterate 3 (first | (refine seq_read (fun _ => True) (fun _ _ => trivial) _ (v := ?_) rfl rfl (by rfl) ?_ ?_; rotate_left; (· intro w' hF; go_simp; (try with_reducible rfl)); simp only [Act.put, List.setIfInBounds_toArray, List.set_cons_zero, List.set_cons_succ]) | (refine seq_skip _ rfl rfl (by rfl) ?_; simp only [Act.put, List.setIfInBounds_toArray, List.set_cons_zero, List.set_cons_succ]))
      refine seq_read (fun w' => ∀ j v, (cellsOf x)[j]? = some v → w'.cell? ⟨b, (k*32) + j, none⟩ = some v) (fun w' e => RA.out w' ((Ext.refl _).drew.trans e)) _ (v := .agg (cellsOf x).toArray) rfl rfl (by rfl) (fun w' hF => exec_load_mid rfl rfl hF rfl rfl (by rw [C]; rfl)) ?_
      simp only [Act.put, List.setIfInBounds_toArray, List.set_cons_zero, List.set_cons_succ]
      iterate 3 (first | (refine seq_read (fun _ => True) (fun _ _ => trivial) _ (v := ?_) rfl rfl (by rfl) ?_ ?_; rotate_left; (· intro w' hF; go_simp; (try with_reducible rfl)); simp only [Act.put, List.setIfInBounds_toArray, List.set_cons_zero, List.set_cons_succ]) | (refine seq_skip _ rfl rfl (by rfl) ?_; simp only [Act.put, List.setIfInBounds_toArray, List.set_cons_zero, List.set_cons_succ]))
      refine seq_read (fun w' => ∀ j v, (cellsOf x)[j]? = some v → w'.cell? ⟨b', (k*32) + j, none⟩ = some v) (fun w' e => RB.out w' ((Ext.refl _).drew.trans e)) _ (v := .agg (cellsOf x).toArray) rfl rfl (by rfl) (fun w' hF => exec_load_mid rfl rfl hF rfl rfl (by rw [C]; rfl)) ?_
      simp only [Act.put, List.setIfInBounds_toArray, List.set_cons_zero, List.set_cons_succ]
      refine seq_read (fun _ => True) (fun _ _ => trivial) _ (v := .bool false) rfl rfl (by rfl) (fun w' _ => exec_neq_keyB (xs := x) (ys := x) (show (!decide (x = x)) = false by simp) L L rfl rfl rfl) ?_
      simp only [Act.put, List.setIfInBounds_toArray, List.set_cons_zero, List.set_cons_succ]
      refine seq_done ?_
      go_wp2_with fail
      exact ⟨⟨k + 1, by omega, by go_num, he'.out.drew⟩, by simp [intOf]; omega⟩
    · obtain rfl : k = n := by omega
      replace he := Lib.hid he
      go_wp2_with fail
      go_ret
      exact ⟨rfl, he.out⟩
end Go.Proofs.YthdjojindijmnaaDoor
