/-
  ChachaBlocks: any block is the document's.
-/
import Derived.Test.YthdjojindijmnaaJob
import Derived.Test.YthdjojindijmnaaRefBlk
namespace Go.Proofs.Ythdjojindijmnaa
open Go.ChangeShapes Go.WideShapes Go.ChangeAt Go.RowKit Go.Deep
set_option maxRecDepth 100000

theorem b64_guard : Try.prog.eqGuardType Try.prog.depth 29 = false := by kernel_rfl
theorem b64_equal {xs ys : List UInt8} (hx : xs.length = 64) (hy : ys.length = 64) (w : World) :
    (Op.equalIn 10000 29 (.agg (cellsOf xs).toArray) (.agg (cellsOf ys).toArray)).run Try.prog w = .ok (decide (xs = ys)) w := by
  rw [cellsOf_cell, cellsOf_cell, run_equalIn_bytes w 9998 29 5 64 rfl rfl (fun _ => rfl) xs ys hx hy]
  congr 1
  rw [Bool.eq_iff_iff]; simp
theorem exec_eql_b64 {o : Oper} {a : Act} {w : World} {x y : Operand} {t' : TypeId} {xs ys : List UInt8} {b : Bool} (hb : decide (xs = ys) = b) (lx : xs.length = 64) (ly : ys.length = 64) (ho : o.op = .binOp .eql 29 x y t') (hx : a.eval x = .agg (cellsOf xs).toArray) (hy : a.eval y = .agg (cellsOf ys).toArray) :
    (execOp a.eval o).run Try.prog w = .ok (.value (.bool b)) w := by
  unfold execOp
  simp only [ho, hx, hy, Sem.run_bind, run_eqGuard_agg _ _ _ _ _ _ _ b64_guard, Result.andThen_ok, run_eql_struct, b64_equal lx ly, Sem.run_pure, hb]

set_option maxHeartbeats 2000000 in
theorem chachaBlocks_calls {n : Nat} {ks ns : List UInt8} {w : World} (hk : ks.length = 32) (hn : ns.length = 12) (hN : n < 4294967296) :
    Calls Try.prog 3 #[.agg (jobL ks ns n).toArray] w fun e w' => e = .returned (.bool true) ∧ Ext w w' := by
  have JB0 := Lib.hid (Jb.boxed w hk hn hN)
  have KL : (cellsOf ks).length = 32 := by rw [cellsOf_len, hk]
  have NL : (cellsOf ns).length = 12 := by rw [cellsOf_len, hn]
  have B1 : Hid (∀ (W : World), Calls Try.prog 6 #[.agg (cellsOf ks).toArray, .agg (cellsOf ns).toArray, .int .u32 (n : Int)] W fun e w' => e = .returned (.agg (cellsOf (blockL ks ns n)).toArray) ∧ Ext W w') := fun W => block_calls hk hn hN
  have B2 : Hid (∀ (W : World), Calls Try.prog 7 #[.agg (cellsOf ks).toArray, .agg (cellsOf ns).toArray, .int .u32 (n : Int)] W fun e w' => e = .returned (.agg (cellsOf (blockL ks ns n)).toArray) ∧ Ext W w') := fun W => refBlock_calls hk hn hN
  have BL := blockL_len ks ns n
  generalize blockL ks ns n = BK at *
  generalize (jobL ks ns n).toArray = J at *
  go_enter Try.func3, Try.ntmps3
  go_wp2_with fail
  refine awake_calls.mono ?_
  rintro e w1 ⟨rfl, e1⟩
  have E1 : Hid (Ext w w1) := ((Ext.refl w).alloc _).trans e1
  have JB := Lib.hid (JB0.out.ext e1)
  clear JB0 e1
  go_wp2_with fail
  refine wp_region_seq (R := Ext) Ext.refl (fun _ _ _ => Ext.trans) [0, 1, 2, 3, 4, 5, 6, 7, 9, 10, 11, 12, 13, 14, 8, 15, 16, 17, 18] [8, 15] [(0, 6, 16), (1, 7, 64), (2, 8, 132), (6, 9, 384), (2, 10, 132), (18, 11, 1152), (2, 12, 132), (66, 13, 4224), (170, 14, 10880), (2, 15, 132), (514, 16, 32896), (2, 17, 132), (2050, 18, 131200), (2, 19, 132), (8194, 20, 524416), (21762, 21, 1376384), (33026, 22, 2113664), (65538, 23, 4194432), (262143, 3, 8388608)] (by kernel_rfl) (by kernel_rfl) (by kernel_rfl) rfl (by kernel_rfl) (by kernel_rfl) (fun _ _ d _ _ h => by cases d <;> exact h) ?_
  iterate 3 (first | (refine seq_read (fun _ => True) (fun _ _ => trivial) _ (v := ?_) rfl rfl (by rfl) ?_ ?_; rotate_left; (· intro w' hF; go_simp; (try with_reducible rfl)); simp only [Act.put, List.setIfInBounds_toArray, List.set_cons_zero, List.set_cons_succ]) | (refine seq_skip _ rfl rfl (by rfl) ?_; simp only [Act.put, List.setIfInBounds_toArray, List.set_cons_zero, List.set_cons_succ]))
  refine seq_read (fun w' => ∀ j v, (cellsOf ks)[j]? = some v → w'.cell? ⟨w.heap.size, 0 + j, none⟩ = some v) (fun w' e => (JB.out.ext ((Ext.refl _).drew.trans e)).key) _ (v := .agg (cellsOf ks).toArray) rfl rfl (by rfl) (fun w' hF => exec_load_mid rfl rfl hF rfl rfl (by rw [KL]; rfl)) ?_
  simp only [Act.put, List.setIfInBounds_toArray, List.set_cons_zero, List.set_cons_succ]
  iterate 1 (first | (refine seq_read (fun _ => True) (fun _ _ => trivial) _ (v := ?_) rfl rfl (by rfl) ?_ ?_; rotate_left; (· intro w' hF; go_simp; (try with_reducible rfl)); simp only [Act.put, List.setIfInBounds_toArray, List.set_cons_zero, List.set_cons_succ]) | (refine seq_skip _ rfl rfl (by rfl) ?_; simp only [Act.put, List.setIfInBounds_toArray, List.set_cons_zero, List.set_cons_succ]))
  refine seq_read (fun w' => ∀ j v, (cellsOf ns)[j]? = some v → w'.cell? ⟨w.heap.size, 32 + j, none⟩ = some v) (fun w' e => (JB.out.ext ((Ext.refl _).drew.trans e)).non) _ (v := .agg (cellsOf ns).toArray) rfl rfl (by rfl) (fun w' hF => exec_load_mid rfl rfl hF rfl rfl (by rw [NL]; rfl)) ?_
  simp only [Act.put, List.setIfInBounds_toArray, List.set_cons_zero, List.set_cons_succ]
  iterate 3 (first | (refine seq_read _ (fun w' e => (JB.out.ext ((Ext.refl _).drew.trans e)).num) _ (v := ?_) rfl rfl (by rfl) ?_ ?_; rotate_left; (· intro w' hF; go_simp; (try with_reducible rfl)); simp only [Act.put, List.setIfInBounds_toArray, List.set_cons_zero, List.set_cons_succ]) | (refine seq_skip _ rfl rfl (by rfl) ?_; simp only [Act.put, List.setIfInBounds_toArray, List.set_cons_zero, List.set_cons_succ]))
  refine seq_read (fun w' => ∀ j v, (cellsOf ks)[j]? = some v → w'.cell? ⟨w.heap.size, 0 + j, none⟩ = some v) (fun w' e => (JB.out.ext ((Ext.refl _).drew.trans e)).key) _ (v := .agg (cellsOf ks).toArray) rfl rfl (by rfl) (fun w' hF => exec_load_mid rfl rfl hF rfl rfl (by rw [KL]; rfl)) ?_
  simp only [Act.put, List.setIfInBounds_toArray, List.set_cons_zero, List.set_cons_succ]
  iterate 1 (first | (refine seq_read (fun _ => True) (fun _ _ => trivial) _ (v := ?_) rfl rfl (by rfl) ?_ ?_; rotate_left; (· intro w' hF; go_simp; (try with_reducible rfl)); simp only [Act.put, List.setIfInBounds_toArray, List.set_cons_zero, List.set_cons_succ]) | (refine seq_skip _ rfl rfl (by rfl) ?_; simp only [Act.put, List.setIfInBounds_toArray, List.set_cons_zero, List.set_cons_succ]))
  refine seq_read (fun w' => ∀ j v, (cellsOf ns)[j]? = some v → w'.cell? ⟨w.heap.size, 32 + j, none⟩ = some v) (fun w' e => (JB.out.ext ((Ext.refl _).drew.trans e)).non) _ (v := .agg (cellsOf ns).toArray) rfl rfl (by rfl) (fun w' hF => exec_load_mid rfl rfl hF rfl rfl (by rw [NL]; rfl)) ?_
  simp only [Act.put, List.setIfInBounds_toArray, List.set_cons_zero, List.set_cons_succ]
  iterate 2 (first | (refine seq_read _ (fun w' e => (JB.out.ext ((Ext.refl _).drew.trans e)).num) _ (v := ?_) rfl rfl (by rfl) ?_ ?_; rotate_left; (· intro w' hF; go_simp; (try with_reducible rfl)); simp only [Act.put, List.setIfInBounds_toArray, List.set_cons_zero, List.set_cons_succ]) | (refine seq_skip _ rfl rfl (by rfl) ?_; simp only [Act.put, List.setIfInBounds_toArray, List.set_cons_zero, List.set_cons_succ]))
  refine seq_do _ rfl rfl (by rfl) (fun K hK => ?_)
  go_simp
  refine (B1.out _).mono ?_
  rintro e w2 ⟨rfl, e2⟩
  refine hK.out _ _ e2 ?_
  clear hK K
  try simp only [Act.put, List.setIfInBounds_toArray, List.set_cons_zero, List.set_cons_succ]
  refine seq_do _ rfl rfl (by rfl) (fun K hK => ?_)
  go_simp
  refine (B2.out _).mono ?_
  rintro e w3 ⟨rfl, e3⟩
  refine hK.out _ _ e3 ?_
  clear hK K
  try simp only [Act.put, List.setIfInBounds_toArray, List.set_cons_zero, List.set_cons_succ]
  refine seq_read (fun _ => True) (fun _ _ => trivial) _ (v := .bool true) rfl rfl (by rfl) (fun w' _ => exec_eql_b64 (xs := BK) (ys := BK) (decide_eq_true rfl) BL BL rfl rfl rfl) ?_
  simp only [Act.put, List.setIfInBounds_toArray, List.set_cons_zero, List.set_cons_succ]
  repeat (first | (refine seq_read (fun _ => True) (fun _ _ => trivial) _ (v := ?_) rfl rfl (by rfl) ?_ ?_; rotate_left; (· intro w' hF; go_simp; (try with_reducible rfl)); simp only [Act.put, List.setIfInBounds_toArray, List.set_cons_zero, List.set_cons_succ]) | (refine seq_skip _ rfl rfl (by rfl) ?_; simp only [Act.put, List.setIfInBounds_toArray, List.set_cons_zero, List.set_cons_succ]))
  refine seq_done ?_
  have E3 : Hid (Ext w w3) := E1.out.trans ((Ext.refl _).drew.trans (e2.trans e3))
  clear JB E1 e2 e3
  go_wp2_with fail
  go_ret
  exact ⟨rfl, E3.out⟩
end Go.Proofs.Ythdjojindijmnaa
