/-
  CommitOne: one thing alone commits to texts by an opening.
-/
import Derived.Test.YthdjojindijmnaaDoorAwake14
import Derived.Test.YthdjojindijmnaaDoorJoinLt
import Derived.Test.YthdjojindijmnaaDoorFlip
namespace Go.Proofs.YthdjojindijmnaaDoor
open Go.ChangeShapes Go.WideShapes Go.ChangeAt Go.RowKit Go.Deep

set_option maxHeartbeats 1000000 in
theorem commitOne_out {A : Option Addr} {n c : Nat} {l : List (List UInt8)} {ks : List UInt8} {x : Int} {w : World} (h : Rw w A n c l) (hq : lightB l = false ∨ x < 0) {tg : TypeId × Nat × Nat} (hG : Gl w tg) :
    Calls Tryd.prog 3 #[.agg (cellsOf ks).toArray, .slice A n c, .int .i64 x] w fun e w' => e = .returned (.bool true) ∧ Ext w w' := by
  have AW := Lib.hid (fun (W : World) (e : Ext w W) => awake14_calls (hG.kept e hG.lt))
  obtain ⟨b, hb⟩ : ∃ b, lightB l = b := ⟨_, rfl⟩
  have LI : Hid (∀ W, Ext w W → Calls Tryd.prog 14 #[.slice A n c] W fun e w' => e = .returned (.bool b) ∧ w' = W) := fun W e => by
    rw [← hb]; exact light_calls (h.ext e)
  clear hG
  generalize (cellsOf ks).toArray = KS at *
  replace hq : Hid (b = false ∨ x < 0) := by rw [hb] at hq; exact hq
  clear hb
  cases b
  · clear hq
    go_enter Tryd.func3, Tryd.ntmps3
    go_wp2_with fail
    refine (AW.out _ ((Ext.refl w).alloc _)).mono ?_
    rintro e w1 ⟨rfl, e1⟩
    go_wp2_with fail
    refine (LI.out _ (((Ext.refl w).alloc _).trans e1)).mono ?_
    rintro e w2 ⟨rfl, rfl⟩
    go_wp2_with fail
    go_ret
    exact ⟨rfl, ((Ext.refl w).alloc _).trans e1⟩
  · have t1 : decide (x < 0) = true := decide_eq_true (by rcases hq.out with h | h; cases h; exact h)
    clear hq
    go_enter Tryd.func3, Tryd.ntmps3
    go_wp2_with fail
    refine (AW.out _ ((Ext.refl w).alloc _)).mono ?_
    rintro e w1 ⟨rfl, e1⟩
    go_wp2_with fail
    refine (LI.out _ (((Ext.refl w).alloc _).trans e1)).mono ?_
    rintro e w2 ⟨rfl, rfl⟩
    go_wp2_with fail
    go_ret
    exact ⟨rfl, ((Ext.refl w).alloc _).trans e1⟩

set_option maxRecDepth 100000 in
set_option maxHeartbeats 4000000 in
theorem commitOne_main {A : Option Addr} {n c m : Nat} {l : List (List UInt8)} {ks : List UInt8} {w : World} (hk : ks.length = 32) (h : Rw w A n c l) (hq : lightB l = true) (hm : (m : Int) ≤ 9223372036854775807) {tg : TypeId × Nat × Nat} (hG : Gl w tg) :
    Calls Tryd.prog 3 #[.agg (cellsOf ks).toArray, .slice A n c, .int .i64 (m : Int)] w fun e w' => e = .returned (.bool true) ∧ Ext w w' := by
  have AW := Lib.hid (fun (W : World) (e : Ext w W) => awake14_calls (hG.kept e hG.lt))
  have JL : (joinL l).length ≤ 100000000 := Nat.le_trans (join_light hq) (by omega)
  have LI : Hid (∀ W, Ext w W → Calls Tryd.prog 14 #[.slice A n c] W fun e w' => e = .returned (.bool true) ∧ w' = W) := fun W e => by
    rw [← hq]; exact light_calls (h.ext e)
  have MAKE : Hid (∀ W, Ext w W → Calls Tryd.prog 15 #[.agg (cellsOf ks).toArray, .slice A n c] W fun e w' => e = .returned (.agg (cellsOf (macL ks (joinL l))).toArray) ∧ Ext W w') := fun W e => make_calls hk (h.ext e) JL (hG.kept e hG.lt)
  have CHK : Hid (∀ W, Ext w W → Calls Tryd.prog 16 #[.agg (cellsOf (macL ks (joinL l))).toArray, .agg (cellsOf ks).toArray, .slice A n c] W fun e w' => e = .returned (.int .i64 0) ∧ Ext W w') := fun W e => check14_calls (b := false) hk (macL_len _ _) (by simp) (h.ext e) JL (hG.kept e hG.lt)
  obtain ⟨j, hj⟩ : ∃ j, j = m % 32 := ⟨_, rfl⟩
  obtain ⟨k, hkk⟩ : ∃ k, k = m / 32 % 8 := ⟨_, rfl⟩
  have j32 : j < 32 := by omega
  have k8 : k < 8 := by omega
  have ML := macL_len ks (joinL l)
  have FL := (flip_len (macL ks (joinL l)) j k).trans ML
  have CHF : Hid (∀ W, Ext w W → Calls Tryd.prog 16 #[.agg (cellsOf (flip (macL ks (joinL l)) j k)).toArray, .agg (cellsOf ks).toArray, .slice A n c] W fun e w' => e = .returned (.int .i64 4) ∧ Ext W w') := fun W e => check14_calls (b := true) hk FL (by rw [decide_eq_false (flip_ne (by omega) k8)]; rfl) (h.ext e) JL (hG.kept e hG.lt)
  clear hG h JL hq
  generalize macL ks (joinL l) = ms at *
  have hal := key_alloc
  have hz0 := zeros32_size
  generalize zeros32 = Z at *
  have KS : (cellsOf ks).toArray.size = 32 := by simp [cellsOf_len, hk]
  have MS : (cellsOf ms).toArray.size = 32 := by simp [cellsOf_len, ML]
  have M1 := cellsOf_one ms
  have FS : (cellsOf (flip ms j k)).toArray.size = 32 := by simp [cellsOf_len, FL]
  have t1 : decide ((m : Int) < 0) = false := decide_eq_false (by omega)
  replace hj := Lib.hid hj
  replace hkk := Lib.hid hkk
  have K0 : Hid (∀ W, Ext (w.alloc (Obj.cells (cellsOf ks).toArray 23)) W → Ky W w.heap.size ks ∧ Ext w W) := fun W e => ⟨(Ky.boxed w hk).ext e, ((Ext.refl w).alloc _).trans e⟩
  go_enter Tryd.func3, Tryd.ntmps3
  go_wp2_with fail
  refine (AW.out _ ((Ext.refl w).alloc _)).mono ?_
  rintro e w1 ⟨rfl, e1⟩
  obtain ⟨K1, E1⟩ := K0.out _ e1
  replace K1 := Lib.hid K1
  replace E1 := Lib.hid E1
  clear AW K0 e1
  go_wp2_with fail
  refine (LI.out _ E1.out).mono ?_
  rintro e w2 ⟨rfl, rfl⟩
  clear LI
  go_wp2_with (refine wpList_exec rfl (exec_load_row rfl rfl K1.out.1 rfl rfl (by rw [KS]; rfl)) ?_; simp only [Act.put, List.setIfInBounds_toArray, List.set_cons_zero, List.set_cons_succ])
  refine (MAKE.out _ E1.out).mono ?_
  rintro e w3 ⟨rfl, e3⟩
  have a3 : Hid ((w3.alloc (Obj.cells Z 23)).heap[w3.heap.size]? = some (.cells Z 23 (0, 0))) := heap_alloc_new _ _
  go_upto_region 6 with (refine wpList_store_row rfl 23 _ _ rfl w3.heap.size (cellsOf ms).toArray rfl rfl 23 Z a3.out (by rw [MS]; rfl) (by rw [MS]; exact hz0) M1 ?_; simp only [Act.put, List.setIfInBounds_toArray, List.set_cons_zero, List.set_cons_succ])
  obtain ⟨g, hg⟩ : ∃ g, g = w3.heap.size := ⟨_, rfl⟩
  have e4 : Ext w3 ((w3.alloc (Obj.cells Z 23)).setRow w3.heap.size (cellsOf ms).toArray) := below_setRow ((Ext.refl w3).alloc _) (Nat.le_refl _) _
  refine wp_gen (fun W => Ext w W ∧ Ky W w.heap.size ks ∧ Ky W g ms) ⟨E1.out.trans (e3.trans e4), K1.out.ext (e3.trans e4), ⟨by rw [hg]; exact setRow_heap _ _ _ _ _ _ a3.out, ML⟩⟩ ?_
  rw [← hg]
  clear hg a3 e4 e3 E1 K1
  rintro w4 ⟨E4, k4, m4⟩
  replace E4 := Lib.hid E4
  replace k4 := Lib.hid k4
  replace m4 := Lib.hid m4
  have a4 : Hid ((w4.alloc (Obj.cells Z 23)).heap[w4.heap.size]? = some (.cells Z 23 (0, 0))) := heap_alloc_new _ _
  have m4a : Hid (Ky (w4.alloc (Obj.cells Z 23)) g ms) := m4.out.ext ((Ext.refl w4).alloc _)
  go_upto_region 7 with (first
    | (refine wpList_exec rfl (exec_load_row rfl rfl m4.out.1 rfl rfl (by rw [MS]; rfl)) ?_; simp only [Act.put, List.setIfInBounds_toArray, List.set_cons_zero, List.set_cons_succ])
    | (refine wpList_store_row rfl 23 _ _ rfl w4.heap.size (cellsOf ms).toArray rfl rfl 23 Z a4.out (by rw [MS]; rfl) (by rw [MS]; exact hz0) M1 ?_; simp only [Act.put, List.setIfInBounds_toArray, List.set_cons_zero, List.set_cons_succ]))
  obtain ⟨f, hf⟩ : ∃ f, f = w4.heap.size := ⟨_, rfl⟩
  have e5 : Ext w4 ((w4.alloc (Obj.cells Z 23)).setRow w4.heap.size (cellsOf ms).toArray) := below_setRow ((Ext.refl w4).alloc _) (Nat.le_refl _) _
  have gf : g < f := by rw [hf]; exact heap_lt m4.out.1
  have wf : w.heap.size < f := by rw [hf]; exact heap_lt k4.out.1
  have wf' : Hid (w.heap.size ≤ f) := Nat.le_of_lt wf
  refine wp_gen (fun W => Ext w W ∧ Ky W w.heap.size ks ∧ Ky W g ms ∧ Ky W f ms) ⟨E4.out.trans e5, k4.out.ext e5, m4.out.ext e5, ⟨by rw [hf]; exact setRow_heap _ _ _ _ _ _ a4.out, ML⟩⟩ ?_
  rw [← hf]
  replace gf := Lib.hid gf
  replace wf := Lib.hid wf
  clear hf a4 m4a e5 E4 k4 m4
  rintro w5 ⟨E5, k5, m5, f5⟩
  replace E5 := Lib.hid E5
  replace k5 := Lib.hid k5
  replace m5 := Lib.hid m5
  replace f5 := Lib.hid f5
  have KEEP : Hid (∀ w', Ext w5 w' → w'.cell? ⟨f, j, none⟩ = some (.int .u8 (bt ms j : Int))) := fun w' e => (f5.out.ext e).cell j32
  have cf := f5.out.frozen j
  have cb := f5.out.cell j32
  have z1 := bt_lt ms j
  have f2 : Int.tmod (m : Int) 32 = (j : Int) := by rw [Int.tmod_eq_emod_of_nonneg (by omega), hj.out]; omega
  have f3 : Int.tdiv (m : Int) 32 = ((m / 32 : Nat) : Int) := by rw [Int.tdiv_eq_ediv_of_nonneg (by omega)]; omega
  have f4 : Int.tmod ((m / 32 : Nat) : Int) 8 = (k : Int) := by rw [Int.tmod_eq_emod_of_nonneg (by omega), hkk.out]; omega
  have fq : IntKind.i64.wrap ((m / 32 : Nat) : Int) = ((m / 32 : Nat) : Int) := IntWalk.i64_in _ (by omega)
  generalize ((m / 32 : Nat) : Int) = q at *
  have i1 : (j : Int) < 32 := by omega
  have i2 : (0 : Int) ≤ (k : Int) := by omega
  have i3 : ¬ ((k : Int) < 0) := by omega
  refine wp_region_seqZ (R := Ext) Ext.refl (fun _ _ _ => Ext.trans) 10 [0, 1, 2, 3, 4, 5, 6, 7, 8, 9, 10] [10] [(0, 26, 8), (1, 27, 67108864), (2, 28, 134219776), (4, 29, 268435456), (0, 30, 8), (16, 31, 1073741824), (32, 32, 2147483648), (64, 33, 4294967296), (136, 34, 9126805504), (511, 35, 134219776), (1023, 0, 51539607552)] (by kernel_rfl) (by kernel_rfl) (by kernel_rfl) rfl (by kernel_rfl) (by kernel_rfl) (by kernel_rfl) (fun _ _ d _ _ h => by cases d <;> exact h) ?_
  repeat (refine seqZ_read _ (fun w' e => KEEP.out w' ((Ext.refl _).drew.trans e)) _ (v := ?_) rfl rfl (by rfl) ?_ ?_; rotate_left; (· intro w' hF; go_simp; (try with_reducible rfl)); simp only [Act.put, List.setIfInBounds_toArray, List.set_cons_zero, List.set_cons_succ])
  refine seqZ_do _ rfl rfl (by rfl) (fun K1 hK1 => ?_)
  go_simp
  refine hK1.out _ _ (.inl rfl) ?_
  clear hK1 K1
  refine seqZ_done ?_
  rw [flip_int k8]
  refine gen_q (fun W' => Ext w W' ∧ Ky W' w.heap.size ks ∧ Ky W' g ms ∧ Ky W' f (flip ms j k)) ⟨?_, ?_, ?_, (f5.out.flip j32 k8).ext (Ext.refl _).drew⟩ ?_
  · exact Ext.drew (Ext.setCell E5.out wf'.out _)
  · refine Ky.ext ⟨?_, hk⟩ (Ext.refl _).drew
    exact (Below.heap_setCell _ _ _ _ (Nat.ne_of_lt wf.out)).trans k5.out.1
  · refine Ky.ext ⟨?_, ML⟩ (Ext.refl _).drew
    exact (Below.heap_setCell _ _ _ _ (Nat.ne_of_lt gf.out)).trans m5.out.1
  clear KEEP cf cb z1 f2 f3 f4 fq i1 i2 i3 k5 m5 f5 E5
  rintro w6 ⟨E6, k6, m6, f6⟩
  have P6 : Hid (∀ s, Ext w6 s → Ky s w.heap.size ks ∧ Ky s g ms ∧ Ky s f (flip ms j k) ∧ Ext w s) := fun s e => And.intro (k6.ext e) (And.intro (m6.ext e) (And.intro (f6.ext e) (E6.trans e)))
  clear E6 k6 m6 f6 gf wf wf'
  generalize flip ms j k = fs at *
  go_wp2_with fail
  refine wp_region_seq (R := Ext) Ext.refl (fun _ _ _ => Ext.trans) [0, 1, 2, 3, 4, 5, 6, 7, 8, 9, 10, 11, 12, 13, 14, 15, 16, 17, 19, 18, 20, 21, 22] [5, 12, 18] [(0, 36, 256), (1, 37, 68719476736), (2, 38, 137438954496), (2, 39, 137438953488), (2, 40, 137438953476), (30, 41, 2061584302080), (34, 42, 2336462209024), (66, 43, 4535485464576), (160, 44, 8796093022208), (256, 45, 17592186046464), (256, 46, 17592186044432), (256, 47, 17592186044420), (3840, 48, 263882790666240), (4352, 49, 299067162755072), (8448, 50, 580542139465728), (20480, 51, 1125899906842624), (32768, 52, 2251799813685264), (32768, 53, 2251799813685252), (229376, 54, 15762598695796736), (32768, 55, 2251799813686272), (819200, 56, 56294995342131200), (1081344, 57, 74309393851613184), (4194303, 7, 144115188075855872)] (by kernel_rfl) (by kernel_rfl) (by kernel_rfl) rfl (by kernel_rfl) (by kernel_rfl) (fun _ _ d _ _ h => by cases d <;> exact h) ?_
  iterate 2 (first | (refine seq_read (fun _ => True) (fun _ _ => trivial) _ (v := ?_) rfl rfl (by rfl) ?_ ?_; rotate_left; (· intro w' hF; go_simp; (try with_reducible rfl)); simp only [Act.put, List.setIfInBounds_toArray, List.set_cons_zero, List.set_cons_succ]) | (refine seq_skip _ rfl rfl (by rfl) ?_; simp only [Act.put, List.setIfInBounds_toArray, List.set_cons_zero, List.set_cons_succ]))
  refine seq_read (fun w' => w'.heap[g]? = some (.cells (cellsOf ms).toArray 23 (0, 0))) (fun w' e => (P6.out w' ((Ext.refl _).drew.trans e)).2.1.1) _ (v := .agg (cellsOf ms).toArray) rfl rfl (by rfl) (fun w' hF => exec_load_row rfl rfl hF rfl rfl (by rw [MS]; rfl)) ?_
  simp only [Act.put, List.setIfInBounds_toArray, List.set_cons_zero, List.set_cons_succ]
  refine seq_read (fun w' => w'.heap[w.heap.size]? = some (.cells (cellsOf ks).toArray 23 (0, 0))) (fun w' e => (P6.out w' ((Ext.refl _).drew.trans e)).1.1) _ (v := .agg (cellsOf ks).toArray) rfl rfl (by rfl) (fun w' hF => exec_load_row rfl rfl hF rfl rfl (by rw [KS]; rfl)) ?_
  simp only [Act.put, List.setIfInBounds_toArray, List.set_cons_zero, List.set_cons_succ]
  iterate 1 (first | (refine seq_read (fun _ => True) (fun _ _ => trivial) _ (v := ?_) rfl rfl (by rfl) ?_ ?_; rotate_left; (· intro w' hF; go_simp; (try with_reducible rfl)); simp only [Act.put, List.setIfInBounds_toArray, List.set_cons_zero, List.set_cons_succ]) | (refine seq_skip _ rfl rfl (by rfl) ?_; simp only [Act.put, List.setIfInBounds_toArray, List.set_cons_zero, List.set_cons_succ]))
  refine seq_do _ rfl rfl (by rfl) (fun K1 hK1 => ?_)
  go_simp
  refine (CHK.out _ (P6.out _ (Ext.refl _).drew).2.2.2).mono ?_
  rintro e w7 ⟨rfl, e7⟩
  refine hK1.out _ _ e7 ?_
  clear hK1 K1
  try simp only [Act.put, List.setIfInBounds_toArray, List.set_cons_zero, List.set_cons_succ]
  have P7 : Hid (∀ s, Ext w7 s → Ky s w.heap.size ks ∧ Ky s g ms ∧ Ky s f fs ∧ Ext w s) := fun s e => P6.out s ((Ext.refl _).drew.trans (e7.trans e))
  clear P6 e7
  iterate 3 (first | (refine seq_read (fun _ => True) (fun _ _ => trivial) _ (v := ?_) rfl rfl (by rfl) ?_ ?_; rotate_left; (· intro w' hF; go_simp; (try with_reducible rfl)); simp only [Act.put, List.setIfInBounds_toArray, List.set_cons_zero, List.set_cons_succ]) | (refine seq_skip _ rfl rfl (by rfl) ?_; simp only [Act.put, List.setIfInBounds_toArray, List.set_cons_zero, List.set_cons_succ]))
  refine seq_read (fun w' => w'.heap[f]? = some (.cells (cellsOf fs).toArray 23 (0, 0))) (fun w' e => (P7.out w' e).2.2.1.1) _ (v := .agg (cellsOf fs).toArray) rfl rfl (by rfl) (fun w' hF => exec_load_row rfl rfl hF rfl rfl (by rw [FS]; rfl)) ?_
  simp only [Act.put, List.setIfInBounds_toArray, List.set_cons_zero, List.set_cons_succ]
  refine seq_read (fun w' => w'.heap[w.heap.size]? = some (.cells (cellsOf ks).toArray 23 (0, 0))) (fun w' e => (P7.out w' e).1.1) _ (v := .agg (cellsOf ks).toArray) rfl rfl (by rfl) (fun w' hF => exec_load_row rfl rfl hF rfl rfl (by rw [KS]; rfl)) ?_
  simp only [Act.put, List.setIfInBounds_toArray, List.set_cons_zero, List.set_cons_succ]
  iterate 1 (first | (refine seq_read (fun _ => True) (fun _ _ => trivial) _ (v := ?_) rfl rfl (by rfl) ?_ ?_; rotate_left; (· intro w' hF; go_simp; (try with_reducible rfl)); simp only [Act.put, List.setIfInBounds_toArray, List.set_cons_zero, List.set_cons_succ]) | (refine seq_skip _ rfl rfl (by rfl) ?_; simp only [Act.put, List.setIfInBounds_toArray, List.set_cons_zero, List.set_cons_succ]))
  refine seq_do _ rfl rfl (by rfl) (fun K1 hK1 => ?_)
  go_simp
  refine (CHF.out _ (P7.out _ (Ext.refl _)).2.2.2).mono ?_
  rintro e w8 ⟨rfl, e8⟩
  refine hK1.out _ _ e8 ?_
  clear hK1 K1
  try simp only [Act.put, List.setIfInBounds_toArray, List.set_cons_zero, List.set_cons_succ]
  have P8 : Hid (∀ s, Ext w8 s → Ky s w.heap.size ks ∧ Ky s g ms ∧ Ext w s) := fun s e => And.intro (P7.out s (e8.trans e)).1 (And.intro (P7.out s (e8.trans e)).2.1 (P7.out s (e8.trans e)).2.2.2)
  clear P7 e8
  iterate 3 (first | (refine seq_read (fun _ => True) (fun _ _ => trivial) _ (v := ?_) rfl rfl (by rfl) ?_ ?_; rotate_left; (· intro w' hF; go_simp; (try with_reducible rfl)); simp only [Act.put, List.setIfInBounds_toArray, List.set_cons_zero, List.set_cons_succ]) | (refine seq_skip _ rfl rfl (by rfl) ?_; simp only [Act.put, List.setIfInBounds_toArray, List.set_cons_zero, List.set_cons_succ]))
  refine seq_read (fun w' => w'.heap[w.heap.size]? = some (.cells (cellsOf ks).toArray 23 (0, 0))) (fun w' e => (P8.out w' e).1.1) _ (v := .agg (cellsOf ks).toArray) rfl rfl (by rfl) (fun w' hF => exec_load_row rfl rfl hF rfl rfl (by rw [KS]; rfl)) ?_
  simp only [Act.put, List.setIfInBounds_toArray, List.set_cons_zero, List.set_cons_succ]
  iterate 1 (first | (refine seq_read (fun _ => True) (fun _ _ => trivial) _ (v := ?_) rfl rfl (by rfl) ?_ ?_; rotate_left; (· intro w' hF; go_simp; (try with_reducible rfl)); simp only [Act.put, List.setIfInBounds_toArray, List.set_cons_zero, List.set_cons_succ]) | (refine seq_skip _ rfl rfl (by rfl) ?_; simp only [Act.put, List.setIfInBounds_toArray, List.set_cons_zero, List.set_cons_succ]))
  refine seq_read (fun w' => w'.heap[g]? = some (.cells (cellsOf ms).toArray 23 (0, 0))) (fun w' e => (P8.out w' e).2.1.1) _ (v := .agg (cellsOf ms).toArray) rfl rfl (by rfl) (fun w' hF => exec_load_row rfl rfl hF rfl rfl (by rw [MS]; rfl)) ?_
  simp only [Act.put, List.setIfInBounds_toArray, List.set_cons_zero, List.set_cons_succ]
  refine seq_do _ rfl rfl (by rfl) (fun K1 hK1 => ?_)
  go_simp
  refine (MAKE.out _ (P8.out _ (Ext.refl _)).2.2).mono ?_
  rintro e w9 ⟨rfl, e9⟩
  refine hK1.out _ _ e9 ?_
  clear hK1 K1
  try simp only [Act.put, List.setIfInBounds_toArray, List.set_cons_zero, List.set_cons_succ]
  have E9 : Hid (Ext w w9) := (P8.out _ e9).2.2
  clear P8 e9
  refine seq_read (fun _ => True) (fun _ _ => trivial) _ (v := .bool true) rfl rfl (by rfl) (fun w' _ => exec_eql_keyB (xs := ms) (ys := ms) (decide_eq_true rfl) ML ML rfl rfl rfl) ?_
  simp only [Act.put, List.setIfInBounds_toArray, List.set_cons_zero, List.set_cons_succ]
  repeat (first | (refine seq_read (fun _ => True) (fun _ _ => trivial) _ (v := ?_) rfl rfl (by rfl) ?_ ?_; rotate_left; (· intro w' hF; go_simp; (try with_reducible rfl)); simp only [Act.put, List.setIfInBounds_toArray, List.set_cons_zero, List.set_cons_succ]) | (refine seq_skip _ rfl rfl (by rfl) ?_; simp only [Act.put, List.setIfInBounds_toArray, List.set_cons_zero, List.set_cons_succ]))
  refine seq_done ?_
  go_wp2_with fail
  go_ret
  exact ⟨rfl, E9.out⟩

theorem commitOne_calls {A : Option Addr} {n c : Nat} {l : List (List UInt8)} {ks : List UInt8} {x : Int} {w : World} (hk : ks.length = 32) (h : Rw w A n c l) (hx : x ≤ 9223372036854775807) {tg : TypeId × Nat × Nat} (hG : Gl w tg) :
    Calls Tryd.prog 3 #[.agg (cellsOf ks).toArray, .slice A n c, .int .i64 x] w fun e w' => e = .returned (.bool true) ∧ Ext w w' := by
  by_cases hq : lightB l = false ∨ x < 0
  · exact commitOne_out h hq hG
  · obtain ⟨m, rfl⟩ := Int.eq_ofNat_of_zero_le (show 0 ≤ x by omega)
    exact commitOne_main hk h (by cases h : lightB l <;> simp_all) hx hG
end Go.Proofs.YthdjojindijmnaaDoor
