/-
  ChachaTurns: any bytes, turned, are the document's.
-/
import Derived.Test.YthdjojindijmnaaJob
import Derived.Test.YthdjojindijmnaaRefTn
namespace Go.Proofs.Ythdjojindijmnaa
open Go.ChangeShapes Go.WideShapes Go.ChangeAt Go.RowKit Go.Deep
set_option maxRecDepth 100000

theorem turns_out {A : Option Addr} {m c : Nat} {bs : List UInt8} {J : Array Value} {w : World} (h : Bs w A m c bs) (hq : 1000 < m) :
    Calls Try.prog 4 #[.agg J, .slice A m c] w fun e w' => e = .returned (.bool true) ∧ Ext w w' := by
  have h1 := h.le
  have h2 := h.cap
  have q1' : decide ((1000 : Int) < (m : Int)) = true := by simp; omega
  go_enter Try.func4, Try.ntmps4
  go_wp2_with fail
  refine awake_calls.mono ?_
  rintro e w1 ⟨rfl, e1⟩
  go_wp2_with fail
  go_ret
  exact ⟨rfl, ((Ext.refl w).alloc _).trans e1⟩

set_option maxHeartbeats 2000000 in
theorem turns_main {A : Option Addr} {m c n : Nat} {ks ns bs : List UInt8} {w : World} (hk : ks.length = 32) (hn : ns.length = 12) (hN : n < 4294967296) (h : Bs w A m c bs) (hq : m ≤ 1000) :
    Calls Try.prog 4 #[.agg (jobL ks ns n).toArray, .slice A m c] w fun e w' => e = .returned (.bool true) ∧ Ext w w' := by
  have h1 := h.le
  have h2 := h.cap
  have q1' : decide ((1000 : Int) < (m : Int)) = false := by simp; omega
  have JB0 := Lib.hid (Jb.boxed w hk hn hN)
  have KL : (cellsOf ks).length = 32 := by rw [cellsOf_len, hk]
  have NL : (cellsOf ns).length = 12 := by rw [cellsOf_len, hn]
  have B1 : Hid (∀ (W : World), Ext w W → Calls Try.prog 8 #[.agg (cellsOf ks).toArray, .agg (cellsOf ns).toArray, .int .u32 (n : Int), .slice A m c] W (RetBs (turnL ks ns n bs) W)) := fun W e => turn_calls hk hn hN (h.ext e) (by omega)
  have B2 : Hid (∀ (W : World), Ext w W → Calls Try.prog 9 #[.agg (cellsOf ks).toArray, .agg (cellsOf ns).toArray, .int .u32 (n : Int), .slice A m c] W (RetBs (turnL ks ns n bs) W)) := fun W e => refTurn4_calls hk hn hN (h.ext e) (by omega)
  generalize turnL ks ns n bs = T at *
  generalize (jobL ks ns n).toArray = J at *
  clear h
  go_enter Try.func4, Try.ntmps4
  go_wp2_with fail
  refine awake_calls.mono ?_
  rintro e w1 ⟨rfl, e1⟩
  have E1 : Hid (Ext w w1) := ((Ext.refl w).alloc _).trans e1
  have JB := Lib.hid (JB0.out.ext e1)
  clear JB0 e1
  go_wp2_with fail
  refine wp_region_seq (R := Ext) Ext.refl (fun _ _ _ => Ext.trans) [0, 1, 2, 3, 4, 5, 6, 7, 8, 11, 12, 13, 14, 15, 16, 17, 9, 10, 18, 19, 20, 21, 22] [9, 18] [(0, 12, 64), (1, 13, 4096), (2, 14, 8200), (6, 15, 24576), (2, 16, 8200), (18, 17, 73728), (2, 18, 8200), (66, 19, 270336), (2, 20, 8196), (426, 21, 1744896), (514, 22, 2105344), (2, 23, 8200), (2050, 24, 8396800), (2, 25, 8200), (8194, 26, 33562624), (2, 27, 8200), (32770, 28, 134225920), (2, 29, 8196), (217602, 30, 889200640), (262146, 31, 1073750016), (525314, 32, 2151686144), (1048578, 33, 4294975488), (4194303, 5, 8589934592)] (by kernel_rfl) (by kernel_rfl) (by kernel_rfl) rfl (by kernel_rfl) (by kernel_rfl) (fun _ _ d _ _ h => by cases d <;> exact h) ?_
  iterate 3 (first | (refine seq_read (fun _ => True) (fun _ _ => trivial) _ (v := ?_) rfl rfl (by rfl) ?_ ?_; rotate_left; (· intro w' hF; go_simp; (try with_reducible rfl)); simp only [Act.put, List.setIfInBounds_toArray, List.set_cons_zero, List.set_cons_succ]) | (refine seq_skip _ rfl rfl (by rfl) ?_; simp only [Act.put, List.setIfInBounds_toArray, List.set_cons_zero, List.set_cons_succ]))
  refine seq_read (fun w' => ∀ j v, (cellsOf ks)[j]? = some v → w'.cell? ⟨w.heap.size, 0 + j, none⟩ = some v) (fun w' e => (JB.out.ext ((Ext.refl _).drew.trans e)).key) _ (v := .agg (cellsOf ks).toArray) rfl rfl (by rfl) (fun w' hF => exec_load_mid rfl rfl hF rfl rfl (by rw [KL]; rfl)) ?_
  simp only [Act.put, List.setIfInBounds_toArray, List.set_cons_zero, List.set_cons_succ]
  iterate 1 (first | (refine seq_read (fun _ => True) (fun _ _ => trivial) _ (v := ?_) rfl rfl (by rfl) ?_ ?_; rotate_left; (· intro w' hF; go_simp; (try with_reducible rfl)); simp only [Act.put, List.setIfInBounds_toArray, List.set_cons_zero, List.set_cons_succ]) | (refine seq_skip _ rfl rfl (by rfl) ?_; simp only [Act.put, List.setIfInBounds_toArray, List.set_cons_zero, List.set_cons_succ]))
  refine seq_read (fun w' => ∀ j v, (cellsOf ns)[j]? = some v → w'.cell? ⟨w.heap.size, 32 + j, none⟩ = some v) (fun w' e => (JB.out.ext ((Ext.refl _).drew.trans e)).non) _ (v := .agg (cellsOf ns).toArray) rfl rfl (by rfl) (fun w' hF => exec_load_mid rfl rfl hF rfl rfl (by rw [NL]; rfl)) ?_
  simp only [Act.put, List.setIfInBounds_toArray, List.set_cons_zero, List.set_cons_succ]
  iterate 4 (first | (refine seq_read _ (fun w' e => (JB.out.ext ((Ext.refl _).drew.trans e)).num) _ (v := ?_) rfl rfl (by rfl) ?_ ?_; rotate_left; (· intro w' hF; go_simp; (try with_reducible rfl)); simp only [Act.put, List.setIfInBounds_toArray, List.set_cons_zero, List.set_cons_succ]) | (refine seq_skip _ rfl rfl (by rfl) ?_; simp only [Act.put, List.setIfInBounds_toArray, List.set_cons_zero, List.set_cons_succ]))
  refine seq_read (fun w' => ∀ j v, (cellsOf ks)[j]? = some v → w'.cell? ⟨w.heap.size, 0 + j, none⟩ = some v) (fun w' e => (JB.out.ext ((Ext.refl _).drew.trans e)).key) _ (v := .agg (cellsOf ks).toArray) rfl rfl (by rfl) (fun w' hF => exec_load_mid rfl rfl hF rfl rfl (by rw [KL]; rfl)) ?_
  simp only [Act.put, List.setIfInBounds_toArray, List.set_cons_zero, List.set_cons_succ]
  iterate 1 (first | (refine seq_read (fun _ => True) (fun _ _ => trivial) _ (v := ?_) rfl rfl (by rfl) ?_ ?_; rotate_left; (· intro w' hF; go_simp; (try with_reducible rfl)); simp only [Act.put, List.setIfInBounds_toArray, List.set_cons_zero, List.set_cons_succ]) | (refine seq_skip _ rfl rfl (by rfl) ?_; simp only [Act.put, List.setIfInBounds_toArray, List.set_cons_zero, List.set_cons_succ]))
  refine seq_read (fun w' => ∀ j v, (cellsOf ns)[j]? = some v → w'.cell? ⟨w.heap.size, 32 + j, none⟩ = some v) (fun w' e => (JB.out.ext ((Ext.refl _).drew.trans e)).non) _ (v := .agg (cellsOf ns).toArray) rfl rfl (by rfl) (fun w' hF => exec_load_mid rfl rfl hF rfl rfl (by rw [NL]; rfl)) ?_
  simp only [Act.put, List.setIfInBounds_toArray, List.set_cons_zero, List.set_cons_succ]
  iterate 3 (first | (refine seq_read _ (fun w' e => (JB.out.ext ((Ext.refl _).drew.trans e)).num) _ (v := ?_) rfl rfl (by rfl) ?_ ?_; rotate_left; (· intro w' hF; go_simp; (try with_reducible rfl)); simp only [Act.put, List.setIfInBounds_toArray, List.set_cons_zero, List.set_cons_succ]) | (refine seq_skip _ rfl rfl (by rfl) ?_; simp only [Act.put, List.setIfInBounds_toArray, List.set_cons_zero, List.set_cons_succ]))
  refine seq_do _ rfl rfl (by rfl) (fun K hK => ?_)
  go_simp
  refine (B1.out _ E1.out.drew).mono ?_
  rintro e w2 ⟨A2, n2, c2, rfl, b2, e2⟩
  refine hK.out _ _ e2 ?_
  clear hK K
  try simp only [Act.put, List.setIfInBounds_toArray, List.set_cons_zero, List.set_cons_succ]
  have E2 : Hid (Ext w w2) := E1.out.drew.trans e2
  iterate 1 (first | (refine seq_read _ (fun w' e => conv_bs (b2.ext e)) _ (v := ?_) rfl rfl (by rfl) ?_ ?_; rotate_left; (· intro w' hF; go_simp; (try with_reducible rfl)); simp only [Act.put, List.setIfInBounds_toArray, List.set_cons_zero, List.set_cons_succ]) | (refine seq_skip _ rfl rfl (by rfl) ?_; simp only [Act.put, List.setIfInBounds_toArray, List.set_cons_zero, List.set_cons_succ]))
  refine seq_do _ rfl rfl (by rfl) (fun K hK => ?_)
  go_simp
  refine (B2.out _ E2.out).mono ?_
  rintro e w3 ⟨A3, n3, c3, rfl, b3, e3⟩
  refine hK.out _ _ e3 ?_
  clear hK K
  try simp only [Act.put, List.setIfInBounds_toArray, List.set_cons_zero, List.set_cons_succ]
  repeat (first | (refine seq_read _ (fun w' e => conv_bs (b3.ext e)) _ (v := ?_) rfl rfl (by rfl) ?_ ?_; rotate_left; (· intro w' hF; go_simp; (try with_reducible rfl)); simp only [Act.put, List.setIfInBounds_toArray, List.set_cons_zero, List.set_cons_succ]) | (refine seq_skip _ rfl rfl (by rfl) ?_; simp only [Act.put, List.setIfInBounds_toArray, List.set_cons_zero, List.set_cons_succ]))
  refine seq_done ?_
  have E3 : Hid (Ext w w3) := E2.out.trans e3
  clear JB E1 e2 e3 b2 b3 E2
  go_wp2_with fail
  go_ret
  exact ⟨rfl, E3.out⟩

theorem chachaTurns_calls {A : Option Addr} {m c n : Nat} {ks ns bs : List UInt8} {w : World} (hk : ks.length = 32) (hn : ns.length = 12) (hN : n < 4294967296) (h : Bs w A m c bs) :
    Calls Try.prog 4 #[.agg (jobL ks ns n).toArray, .slice A m c] w fun e w' => e = .returned (.bool true) ∧ Ext w w' := by
  by_cases hq : m ≤ 1000
  · exact turns_main hk hn hN h hq
  · exact turns_out h (by omega)
end Go.Proofs.Ythdjojindijmnaa
