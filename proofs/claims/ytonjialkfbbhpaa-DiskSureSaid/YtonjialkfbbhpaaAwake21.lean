/-
  Sectors are compared; palfreylaw21.awake.
-/
import Derived.Test.YtonjialkfbbhpaaOf21
namespace Go.Proofs.Ytonjialkfbbhpaa
open Go.ChangeShapes Go.WideShapes Go.ChangeAt Go.RowKit Go.Deep Go.Maps
set_option maxRecDepth 100000

theorem sector_guard : Try.prog.eqGuardType Try.prog.depth 58 = false := by kernel_rfl
theorem rsector_guard : Try.prog.eqGuardType Try.prog.depth 61 = false := by kernel_rfl
theorem sector_equal {xs ys : List UInt8} (hx : xs.length = 64) (hy : ys.length = 64) (w : World) :
    (Op.equalIn 10000 58 (.agg (cellsOf xs).toArray) (.agg (cellsOf ys).toArray)).run Try.prog w = .ok (decide (xs = ys)) w := by
  rw [cellsOf_cell, cellsOf_cell, run_equalIn_bytes w 9998 58 5 64 rfl rfl (fun _ => rfl) xs ys hx hy]
  congr 1
  rw [Bool.eq_iff_iff]; simp
theorem rsector_equal {xs ys : List UInt8} (hx : xs.length = 64) (hy : ys.length = 64) (w : World) :
    (Op.equalIn 10000 61 (.agg (cellsOf xs).toArray) (.agg (cellsOf ys).toArray)).run Try.prog w = .ok (decide (xs = ys)) w := by
  rw [cellsOf_cell, cellsOf_cell, run_equalIn_bytes w 9998 61 5 64 rfl rfl (fun _ => rfl) xs ys hx hy]
  congr 1
  rw [Bool.eq_iff_iff]; simp
theorem exec_eql_sector {o : Oper} {a : Act} {w : World} {x y : Operand} {t' : TypeId} {xs ys : List UInt8} {b : Bool} (hb : decide (xs = ys) = b) (lx : xs.length = 64) (ly : ys.length = 64) (ho : o.op = .binOp .eql 58 x y t') (hx : a.eval x = .agg (cellsOf xs).toArray) (hy : a.eval y = .agg (cellsOf ys).toArray) :
    (execOp a.eval o).run Try.prog w = .ok (.value (.bool b)) w := by
  unfold execOp
  simp only [ho, hx, hy, Sem.run_bind, run_eqGuard_agg _ _ _ _ _ _ _ sector_guard, Result.andThen_ok, run_eql_struct, sector_equal lx ly, Sem.run_pure, hb]
theorem exec_neq_sector {o : Oper} {a : Act} {w : World} {x y : Operand} {t' : TypeId} {xs ys : List UInt8} {b : Bool} (hb : (!decide (xs = ys)) = b) (lx : xs.length = 64) (ly : ys.length = 64) (ho : o.op = .binOp .neq 58 x y t') (hx : a.eval x = .agg (cellsOf xs).toArray) (hy : a.eval y = .agg (cellsOf ys).toArray) :
    (execOp a.eval o).run Try.prog w = .ok (.value (.bool b)) w := by
  unfold execOp
  simp only [ho, hx, hy, Sem.run_bind, run_eqGuard_agg _ _ _ _ _ _ _ sector_guard, Result.andThen_ok, run_neq_struct, sector_equal lx ly, Sem.run_pure, hb]
theorem exec_neq_rsector {o : Oper} {a : Act} {w : World} {x y : Operand} {t' : TypeId} {xs ys : List UInt8} {b : Bool} (hb : (!decide (xs = ys)) = b) (lx : xs.length = 64) (ly : ys.length = 64) (ho : o.op = .binOp .neq 61 x y t') (hx : a.eval x = .agg (cellsOf xs).toArray) (hy : a.eval y = .agg (cellsOf ys).toArray) :
    (execOp a.eval o).run Try.prog w = .ok (.value (.bool b)) w := by
  unfold execOp
  simp only [ho, hx, hy, Sem.run_bind, run_eqGuard_agg _ _ _ _ _ _ _ rsector_guard, Result.andThen_ok, run_neq_struct, rsector_equal lx ly, Sem.run_pure, hb]

/-- A disk's next state behind a Sync. -/
def Ds.sync (d : Ds) : Ds := if d.fails then d.burn else d.burn.flush
def Ds.syncE (d : Ds) : Int := if d.fails then 13 else 0
theorem sync_calls {w : World} {g r mb : Nat} {d : Ds} (h : DK w g r mb d) :
    Calls Try.prog 26 #[.pointer (some ⟨g, 0, none⟩)] w fun e w' => e = .returned (.int .i64 d.syncE) ∧ ∃ mb', DK w' g r mb' d.sync ∧ (mb' = mb ∨ w.heap.size ≤ mb') ∧ Two g r w w' := dsync_calls h
def aw1 : Ds := (newD 2).write 0 (secB 1)
def aw2 : Ds := aw1.sync
def aw3 : Ds := aw2.write 0 (secB 2)
def aw4 : Ds := aw3.crash 0
theorem aw_facts : (newD 2).writeE 0 = 0 ∧ aw1.syncE = 0 ∧ aw2.writeE 0 = 0 ∧ aw4.readE 0 = 0 ∧ aw4.read 0 = secB 1 := by decide +kernel
/-- Of the blocks from w on, those of a disk turn. -/
theorem dk_lt {w : World} {g r b : Nat} {d : Ds} (h : DK w g r b d) : g < w.heap.size ∧ r < w.heap.size ∧ b < w.heap.size := ⟨h.cb.lt, h.row.lt, h.mp.lt⟩
set_option maxHeartbeats 4000000 in
theorem awake21_calls {w : World} : Calls Try.prog 20 #[] w fun e w' => e = .returned (.bool true) ∧ Ext w w' := by
  have NW := Lib.hid (dnew_ok (w := w) (n := 2) (by omega) (by omega))
  have OF := Lib.hid (fun (W : World) (b : UInt8) => of21_calls (w := W) (b := b))
  have O1 : Hid (∀ W, Calls Try.prog 24 #[.int .u8 1] W fun e w' => e = .returned (.agg (cellsOf (secB 1)).toArray) ∧ Ext W w') := fun W => OF.out W 1
  have O2 : Hid (∀ W, Calls Try.prog 24 #[.int .u8 2] W fun e w' => e = .returned (.agg (cellsOf (secB 2)).toArray) ∧ Ext W w') := fun W => OF.out W 2
  clear OF
  obtain ⟨E1, E2, E3, E4, E5⟩ := aw_facts
  have WR1 : Hid (∀ W g r b, DK W g r b (newD 2) → Calls Try.prog 23 #[.pointer (some ⟨g, 0, none⟩), .int .i64 0, .agg (cellsOf (secB 1)).toArray] W fun e w' => e = .returned (.int .i64 0) ∧ DK w' g r b aw1 ∧ Two g b W w') := fun W g r b h => by
    have := dwrite_calls (i := 0) h (secB_len 1)
    rw [E1] at this
    exact this
  have SY : Hid (∀ W g r b, DK W g r b aw1 → Calls Try.prog 26 #[.pointer (some ⟨g, 0, none⟩)] W fun e w' => e = .returned (.int .i64 0) ∧ ∃ mb', DK w' g r mb' aw2 ∧ (mb' = b ∨ W.heap.size ≤ mb') ∧ Two g r W w') := fun W g r b h => by
    have := sync_calls h
    rw [E2] at this
    exact this
  have WR2 : Hid (∀ W g r b, DK W g r b aw2 → Calls Try.prog 23 #[.pointer (some ⟨g, 0, none⟩), .int .i64 0, .agg (cellsOf (secB 2)).toArray] W fun e w' => e = .returned (.int .i64 0) ∧ DK w' g r b aw3 ∧ Two g b W w') := fun W g r b h => by
    have := dwrite_calls (i := 0) h (secB_len 2)
    rw [E3] at this
    exact this
  have CR : Hid (∀ W g r b, DK W g r b aw3 → Calls Try.prog 30 #[.pointer (some ⟨g, 0, none⟩), .int .u64 0] W fun e w' => e = .returned (.tuple #[]) ∧ ∃ mb', DK w' g r mb' aw4 ∧ W.heap.size ≤ mb' ∧ Two g r W w') := fun W g r b h => dcrash_calls (kept := 0) h (by omega)
  have RE : Hid (∀ W g r b, DK W g r b aw4 → Calls Try.prog 32 #[.pointer (some ⟨g, 0, none⟩), .int .i64 0] W fun e w' => e = .returned (.tuple #[.agg (cellsOf (secB 1)).toArray, .int .i64 0]) ∧ Ext W w') := fun W g r b h => by
    have := dread_calls (i := 0) h
    rw [E4, E5] at this
    exact this
  clear E1 E2 E3 E4 E5
  have L_1 := secB_len 1
  generalize secB 1 = s1 at *
  generalize secB 2 = s2 at *
  generalize aw1 = d1 at *
  generalize aw2 = d2 at *
  generalize aw3 = d3 at *
  generalize aw4 = d4 at *
  generalize newD 2 = d0 at *
  have S_1 : (cellsOf s1).toArray.size = 64 := by simp [cellsOf_len, L_1]
  have O_1 := one_cells (one_mem s1)
  have hal := sector_alloc
  have Lz := zS64_len
  generalize zS64 = ZL at *
  have S_Z : ZL.toArray.size = 64 := by rw [List.size_toArray, Lz]
  go_enter Try.func20, Try.ntmps20
  go_wp2_with fail
  refine NW.out.mono ?_
  rintro e w1 ⟨g, r, b, rfl, wg, wr, wb, k1, x1⟩
  replace x1 := Lib.hid x1
  replace k1 := Lib.hid k1
  clear NW
  go_wp2_with fail
  refine (O1.out _).mono ?_
  rintro e w2 ⟨rfl, x2⟩
  have W2 := Lib.hid (WR1.out w2 g r b (k1.out.ext x2))
  have X2 : Hid (Ext w w2) := x1.out.trans x2
  clear WR1 k1 x1 x2
  go_wp2_with fail
  refine W2.out.mono ?_
  rintro e w3 ⟨rfl, k3, t3⟩
  have X3 : Hid (Ext w w3) := t3.ext X2.out wg wb
  have S3 := Lib.hid (SY.out w3 g r b k3)
  clear W2 SY k3 t3 X2
  go_wp2_with fail
  refine S3.out.mono ?_
  rintro e w4 ⟨rfl, mb4, k4, h4, t4⟩
  have X4 : Hid (Ext w w4) := t4.ext X3.out wg wr
  have wb4 : w.heap.size ≤ mb4 := by
    have := X3.out.size
    omega
  replace k4 := Lib.hid k4
  clear S3 t4 X3 h4 wb
  go_wp2_with fail
  refine (O2.out _).mono ?_
  rintro e w5 ⟨rfl, x5⟩
  have W5 := Lib.hid (WR2.out w5 g r mb4 (k4.out.ext x5))
  have X5 : Hid (Ext w w5) := X4.out.trans x5
  clear WR2 k4 x5 O2 X4
  go_wp2_with fail
  refine W5.out.mono ?_
  rintro e w6 ⟨rfl, k6, t6⟩
  have X6 : Hid (Ext w w6) := t6.ext X5.out wg wb4
  have C6 := Lib.hid (CR.out w6 g r mb4 k6)
  clear W5 CR k6 t6 X5
  go_wp2_with fail
  refine C6.out.mono ?_
  rintro e w7 ⟨rfl, mb7, k7, _, t7⟩
  have X7 : Hid (Ext w w7) := t7.ext X6.out wg wr
  have R7 := Lib.hid (RE.out w7 g r mb7 k7)
  clear C6 RE k7 t7 X6
  go_wp2_with fail
  refine R7.out.mono ?_
  rintro e w8 ⟨rfl, x8⟩
  have K8 : Hid (Cb ((w8.alloc (.cells ZL.toArray 58)).setRow w8.heap.size (cellsOf s1).toArray) w8.heap.size 58 (cellsOf s1) ∧ Ext w ((w8.alloc (.cells ZL.toArray 58)).setRow w8.heap.size (cellsOf s1).toArray)) := ⟨(Cb.new w8 _ ZL).set, (X7.out.trans x8).trans (Ext.newRow _ _ _)⟩
  clear R7 X7 x8
  go_upto_region 9 with (refine wpList_store_row rfl 58 _ _ rfl w8.heap.size (cellsOf s1).toArray rfl rfl 58 ZL.toArray (heap_alloc_new _ _) (by rw [S_1]; rfl) (by rw [S_1, S_Z]) O_1 ?_; simp only [Act.put])
  refine wp_gen (fun W => Cb W w8.heap.size 58 (cellsOf s1) ∧ Ext w W) K8.out ?_
  generalize w8.heap.size = g6 at *
  clear K8 w8
  rintro w9 ⟨k9, x9⟩
  have K9 : Hid (∀ s, Ext w9 s → Cb s g6 58 (cellsOf s1)) := fun s e => k9.ext e
  replace x9 := Lib.hid x9
  clear k9
  refine wp_region_seq (R := Ext) Ext.refl (fun _ _ _ => Ext.trans) [0, 1, 2, 3, 4, 5, 6, 7, 8, 9, 10, 11, 12, 13, 14, 15, 16, 17, 18, 19] [16] [(0, 34, 16), (1, 35, 17179869184), (2, 36, 34359738368), (4, 37, 68719476768), (12, 38, 206158430208), (20, 39, 343597383680), (36, 40, 549755813888), (64, 41, 1099511627840), (192, 42, 3298534883328), (320, 43, 5497558138880), (576, 44, 8796093022208), (1024, 45, 17592186044672), (3072, 46, 52776558133248), (5120, 47, 87960930222080), (9216, 48, 140737488355328), (16384, 49, 281474976710784), (16384, 50, 281474976710656), (114688, 51, 1970324836974592), (147456, 52, 2533274790395904), (524287, 1, 4503599627370496)] (by kernel_rfl) (by kernel_rfl) (by kernel_rfl) rfl (by kernel_rfl) (by kernel_rfl) (fun _ _ d _ _ h => by cases d <;> exact h) ?_
  repeat (first | (refine seq_read (fun _ => True) (fun _ _ => trivial) _ (v := ?_) rfl rfl (by rfl) ?_ ?_; rotate_left; (· intro w' hF; go_simp; (try with_reducible rfl)); simp only [Act.put, List.setIfInBounds_toArray, List.set_cons_zero, List.set_cons_succ]) | (refine seq_skip _ rfl rfl (by rfl) ?_; simp only [Act.put, List.setIfInBounds_toArray, List.set_cons_zero, List.set_cons_succ]))
  refine seq_read (fun w' => w'.heap[g6]? = some (.cells (cellsOf s1).toArray 58 (0, 0))) (fun w' e => K9.out w' (Ext.trans (Ext.refl _).drew e)) _ (v := .agg (cellsOf s1).toArray) rfl rfl (by rfl) (fun w' hF => exec_load_row rfl rfl hF rfl rfl (by rw [S_1]; rfl)) ?_
  simp only [Act.put, List.setIfInBounds_toArray, List.set_cons_zero, List.set_cons_succ]
  have X0 : Hid (Ext w w9.drew) := x9.out.drew
  generalize w9.drew = W at *
  refine seq_do _ rfl rfl (by rfl) (fun K hK => ?_)
  go_simp
  refine (O1.out W).mono ?_
  rintro e w10 ⟨rfl, x10⟩
  refine hK.out _ _ x10 ?_
  clear hK K
  try simp only [Act.put, List.setIfInBounds_toArray, List.set_cons_zero, List.set_cons_succ]
  refine seq_read (fun _ => True) (fun _ _ => trivial) _ (v := .bool true) rfl rfl (by rfl) (fun w' _ => exec_eql_sector (decide_eq_true rfl) L_1 L_1 rfl rfl rfl) ?_
  simp only [Act.put, List.setIfInBounds_toArray, List.set_cons_zero, List.set_cons_succ]
  repeat (first | (refine seq_read (fun _ => True) (fun _ _ => trivial) _ (v := ?_) rfl rfl (by rfl) ?_ ?_; rotate_left; (· intro w' hF; go_simp; (try with_reducible rfl)); simp only [Act.put, List.setIfInBounds_toArray, List.set_cons_zero, List.set_cons_succ]) | (refine seq_skip _ rfl rfl (by rfl) ?_; simp only [Act.put, List.setIfInBounds_toArray, List.set_cons_zero, List.set_cons_succ]))
  refine seq_done ?_
  have X2 : Hid (Ext w w10) := X0.out.trans x10
  clear O1 K9 x9 X0 x10
  go_wp2_with fail
  go_ret
  exact ⟨rfl, X2.out⟩
end Go.Proofs.Ytonjialkfbbhpaa
