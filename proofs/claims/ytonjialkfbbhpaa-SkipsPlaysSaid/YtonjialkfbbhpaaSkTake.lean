/-
  skips.Take.
-/
import Derived.Test.YtonjialkfbbhpaaSkNew
namespace Go.Proofs.Ytonjialkfbbhpaa
open Go.ChangeShapes Go.WideShapes Go.ChangeAt Go.RowKit Go.Deep Go.Maps
set_option maxRecDepth 100000

def zKN : List Value := knC (List.replicate 32 0) 0
theorem zKN_len : zKN.length = 33 := by kernel_rfl
theorem place_alloc (w : World) : (zeroValue 82).run Try.prog w = .ok (.agg zKN.toArray) w := by kernel_rfl
theorem entry_alloc (w : World) : (zeroValue 84).run Try.prog w = .ok (.agg zKN.toArray) w := by kernel_rfl
theorem splice_last {α : Type} {p y z : List α} {off : Nat} (hp : p.length = off) (hl : y.length = z.length) : splice (p ++ y) off z = p ++ z := by
  have := splice_mid (q := []) hp hl
  simpa using this
theorem fill_kn {pl : Nat → Option (Nat × Nat)} (h0 : pl 0 = some (0, 32)) (h1 : pl 1 = some (32, 1)) {pk : List UInt8} (hp : pk.length = 32) (n : Int) : Instr.fill pl zKN.toArray [(0, .agg (cellsOf pk).toArray), (1, .int .i64 n)] = some (knC pk n).toArray := by
  have e : zKN = cellsOf (List.replicate 32 0) ++ [.int .i64 0] := rfl
  have l1 : (cellsOf pk).toArray.toList = cellsOf pk := rfl
  rw [fill_step h0 (by rw [cells_agg, List.size_toArray, cellsOf_len, hp]) (by rw [zKN_len]; omega), cells_agg, l1, e, splice_zero (by rw [cellsOf_len, cellsOf_len, hp]; rfl)]
  rw [fill_step h1 rfl (by rw [List.length_append, cellsOf_len, hp]; exact Nat.le_refl _)]
  rw [show (Value.int .i64 n).cells.toList = [.int .i64 n] from rfl, splice_last (p := cellsOf pk) (y := [Value.int .i64 0]) (z := [Value.int .i64 n]) (by rw [cellsOf_len, hp]) rfl]
  rfl
theorem place_built {pk : List UInt8} (hp : pk.length = 32) (n : Int) : Try.prog.built 82 [(0, .agg (cellsOf pk).toArray), (1, .int .i64 n)] = some (knC pk n).toArray := by
  have h : ∃ pl : Nat → Option (Nat × Nat), pl 0 = some (0, 32) ∧ pl 1 = some (32, 1) ∧ ∀ ps, Try.prog.built 82 ps = Instr.fill pl zKN.toArray ps := ⟨(#[(0, 32), (32, 1)][·]?), rfl, rfl, fun ps => by kernel_rfl⟩
  obtain ⟨pl, h0, h1, h2⟩ := h
  rw [h2, fill_kn h0 h1 hp]
theorem entry_built {pk : List UInt8} (hp : pk.length = 32) (n : Int) : Try.prog.built 84 [(0, .agg (cellsOf pk).toArray), (1, .int .i64 n)] = some (knC pk n).toArray := by
  have h : ∃ pl : Nat → Option (Nat × Nat), pl 0 = some (0, 32) ∧ pl 1 = some (32, 1) ∧ ∀ ps, Try.prog.built 84 ps = Instr.fill pl zKN.toArray ps := ⟨(#[(0, 32), (32, 1)][·]?), rfl, rfl, fun ps => by kernel_rfl⟩
  obtain ⟨pl, h0, h1, h2⟩ := h
  rw [h2, fill_kn h0 h1 hp]
theorem takeL_none {L : List Kp} {pk : List UInt8} {n : Int} (h : hasK L pk n = false) : takeL L pk n = L := by
  unfold takeL
  rw [List.filter_eq_self.2 fun x hx => ?_]
  rw [hasK, List.any_eq_false] at h
  have := h x hx
  simpa using this
theorem cell_of_heap {w w' : World} {g : Nat} (h : w'.heap[g]? = w.heap[g]?) (o : Nat) : w'.cell? ⟨g, o, none⟩ = w.cell? ⟨g, o, none⟩ := World.cell?_of_block h
set_option maxHeartbeats 4000000 in
theorem stake_calls {w : World} {g mb : Nat} {L : List Kp} {puts : Int} (h : SK w g mb L puts) {pk : List UInt8} (hp : pk.length = 32) {n : Int} (hn : -9223372036854775808 ≤ n ∧ n ≤ 9223372036854775807) :
    Calls Try.prog 16 #[.pointer (some ⟨g, 0, none⟩), .agg (cellsOf pk).toArray, .int .i64 n] w fun e w' => e = .returned (.tuple #[.agg (cellsOf (theK L pk n).k).toArray, .bool (hasK L pk n)]) ∧ SK w' g mb (takeL L pk n) puts ∧ Two g mb w w' := by
  have hal1 := place_alloc
  have hal2 := entry_alloc
  have hal3 := key_alloc
  have KZ : Hid (Try.prog.built 31 [] = some zeros32) := zeros32_built
  have BP := Lib.hid (place_built hp n)
  have L_ZK := zKN_len
  have S_Z : zeros32.size = 32 := zeros32_size
  have O_Z : zeros32.all (·.oneCell') = true := zeros32_one
  have S_pk : (cellsOf pk).toArray.size = 32 := by simp [cellsOf_len, hp]
  have L_PC := knC_len hp n
  have O_PC := one_cells (one_kn (pk := pk) (n := n))
  have L_kk := theK_k (pk := pk) (n := n) h.ok
  have L_EC := knC_len L_kk (theK L pk n).wh
  have O_EC := one_cells (one_kn (pk := (theK L pk n).k) (n := (theK L pk n).wh))
  have S_kk : (cellsOf (theK L pk n).k).toArray.size = 32 := by simp [cellsOf_len, L_kk]
  have O_kk := one_cells (one_mem (theK L pk n).k)
  have MK := Lib.hid (kn_key (pk := (theK L pk n).k) (theK L pk n).wh)
  have C_kk : (cellsOf (theK L pk n).k).length = 32 := by rw [cellsOf_len, L_kk]
  have LK : Hid (∀ s, Ext w s → (Instr.lookup 78 (.map (some mb)) (.agg (knC pk n).toArray) true).run Try.prog s = .ok (.tuple #[.agg (knC (theK L pk n).k (theK L pk n).wh).toArray, .bool (hasK L pk n)]) s) := fun s e => (h.ext e).look hp hn
  have DR : Hid (∀ s, Ext w s → ∃ w', (Builtin.delete_ #[78, 82] 0 #[.map (some mb), .agg (knC pk n).toArray]).run Try.prog s = .ok (.tuple #[]) w' ∧ SK w' g mb (takeL L pk n) puts ∧ s.grownBy w' (some mb)) := fun s e => (h.ext e).drop hp hn 0
  have TN : Hid (hasK L pk n = false → takeL L pk n = L ∧ (theK L pk n).k = List.replicate 32 0) := fun q => ⟨takeL_none q, by rw [theK_none q]⟩
  have glt := h.cb.lt
  have blt := h.mp.lt
  have gnb := h.ne
  have C0 : Hid (∀ s, Ext w s → s.cell? ⟨g, 0, none⟩ = some (.map (some mb))) := fun s e => ((h.ext e).cb).cell rfl
  have SE : Hid (∀ s, Ext w s → SK s g mb L puts) := fun s e => h.ext e
  generalize hasK L pk n = is at *
  generalize takeL L pk n = L2 at *
  generalize (theK L pk n).k = kk at *
  generalize knC kk (theK L pk n).wh = EC at *
  generalize knC pk n = PC at *
  clear h hp L_kk
  generalize zKN = ZK at *
  have S_ZK : ZK.toArray.size = 33 := by rw [List.size_toArray, L_ZK]
  have S_PC : PC.toArray.size = 33 := by rw [List.size_toArray, L_PC]
  have S_EC : EC.toArray.size = 33 := by rw [List.size_toArray, L_EC]
  obtain ⟨r4, hr4⟩ : ∃ r, r = w.heap.size := ⟨_, rfl⟩
  have B0 : Hid (Cb ((w.alloc (Obj.cells (cellsOf pk).toArray 31)).alloc (Obj.cells zeros32 31)) r4 31 (cellsOf pk) ∧ Cb ((w.alloc (Obj.cells (cellsOf pk).toArray 31)).alloc (Obj.cells zeros32 31)) (r4 + 1) 31 zeros32.toList ∧ Ext w ((w.alloc (Obj.cells (cellsOf pk).toArray 31)).alloc (Obj.cells zeros32 31))) := by
    rw [hr4]; exact ⟨heap_alloc1 _ _ _, by unfold Cb; rw [Array.toArray_toList]; exact heap_alloc2 _ _ _, ((Ext.refl w).alloc _).alloc _⟩
  go_enter Try.func16, Try.ntmps16
  go_upto_region 1 with fail
  refine wp_gen (fun W => Cb W r4 31 (cellsOf pk) ∧ Cb W (r4 + 1) 31 zeros32.toList ∧ Ext w W) B0.out ?_
  rw [← hr4]
  have wr : w.heap.size ≤ r4 := Nat.le_of_eq hr4.symm
  clear B0
  replace hr4 := Lib.hid hr4
  obtain ⟨r6, hr6⟩ : ∃ r, r = r4 + 1 := ⟨_, rfl⟩
  rw [← hr6]
  have wr6 : r4 < r6 := by omega
  replace hr6 := Lib.hid hr6
  rintro w0 ⟨k4, k6, x0⟩
  have l6 := k6.lt
  have K1 : Hid (Cb ((w0.alloc (.cells ZK.toArray 82)).setRow w0.heap.size PC.toArray) r6 31 zeros32.toList ∧ Cb ((w0.alloc (.cells ZK.toArray 82)).setRow w0.heap.size PC.toArray) w0.heap.size 82 PC ∧ Ext w ((w0.alloc (.cells ZK.toArray 82)).setRow w0.heap.size PC.toArray)) :=
    ⟨k6.ext (Ext.newRow _ _ _), (Cb.new w0 _ ZK).set, x0.trans (Ext.newRow _ _ _)⟩
  replace k4 := Lib.hid k4
  clear k6 x0
  go_upto_region 2 with (first
    | ((with_reducible refine wpList_load_rowW (o := ⟨some 11, _, _, _, _, _⟩) ?_ 31 _ rfl r4 ?_ 31 (cellsOf pk).toArray (0, 0) _ ?_ Try.underlying31 ?_ ?_ ?_); (· rfl); (· rfl); (· exact k4.out); (· rfl); (· rw [S_pk]; rfl); simp only [Act.put, List.setIfInBounds_toArray, List.set_cons_zero, List.set_cons_succ])
    | (refine wpList_build_as rfl _ _ rfl PC.toArray (by simp only [List.map_toArray, List.map_cons, List.map_nil]; exact BP.out) ?_; simp only [Act.put, List.setIfInBounds_toArray, List.set_cons_zero, List.set_cons_succ])
    | (refine wpList_store_row rfl 82 _ _ rfl w0.heap.size PC.toArray rfl rfl 82 ZK.toArray (heap_alloc_new _ _) (by rw [S_PC]; rfl) (by rw [S_PC, S_ZK]) O_PC ?_; simp only [Act.put]))
  refine wp_gen (fun W => Cb W r6 31 zeros32.toList ∧ Cb W w0.heap.size 82 PC ∧ Ext w W) K1.out ?_
  generalize w0.heap.size = r8 at *
  clear K1 k4 BP w0
  rintro w1 ⟨k6, k8, x1⟩
  have l8 := k8.lt
  have T1 : Hid (∀ s, Below w1.heap.size w1.drew s → s.cell? ⟨g, 0, none⟩ = some (.map (some mb)) ∧ Cb s r8 82 PC ∧ Ext w s ∧ Cb s r6 31 zeros32.toList) := fun s e => by
    have e' : Ext w1 s := Below.trans (Below.drew (Below.refl _ _)) e
    exact ⟨C0.out _ (x1.trans e'), k8.ext e', x1.trans e', k6.ext e'⟩
  have l6' := k6.lt
  have wsz := x1.size
  clear k6 k8 x1
  have hB : w1.drew.heap.size = w1.heap.size := rfl
  refine wp_region_seq (R := Below w1.heap.size) (Below.refl _) (fun _ _ _ => Below.trans) [0, 1, 2, 3, 4, 5, 6, 7, 8, 9, 10, 11] [9, 10] [(0, 16, 2), (1, 17, 65536), (2, 18, 131072), (4, 19, 262144), (0, 20, 512), (24, 21, 1572864), (32, 15, 2097152), (64, 22, 32768), (64, 23, 32768), (0, 10, 0), (767, 0, 4195328), (2047, 11, 8388608)] (by kernel_rfl) (by kernel_rfl) (by kernel_rfl) rfl (by kernel_rfl) (by kernel_rfl) (fun _ _ d _ _ h => by cases d <;> exact h) ?_
  generalize w1.heap.size = r9 at *
  generalize w1.drew = W at *
  clear w1
  repeat (first | (refine seq_read _ (fun w' e => (T1.out w' e).1) _ (v := ?_) rfl rfl (by rfl) ?_ ?_; rotate_left; (· intro w' hF; go_simp; (try with_reducible rfl)); simp only [Act.put, List.setIfInBounds_toArray, List.set_cons_zero, List.set_cons_succ]) | (refine seq_skip _ rfl rfl (by rfl) ?_; simp only [Act.put, List.setIfInBounds_toArray, List.set_cons_zero, List.set_cons_succ]))
  refine seq_read (fun w' => w'.heap[r8]? = some (.cells PC.toArray 82 (0, 0))) (fun w' e => (T1.out w' e).2.1) _ (v := .agg PC.toArray) rfl rfl (by rfl) (fun w' hF => exec_load_row rfl rfl hF rfl rfl (by rw [S_PC]; rfl)) ?_
  simp only [Act.put, List.setIfInBounds_toArray, List.set_cons_zero, List.set_cons_succ]
  refine seq_read (fun w' => Ext w w') (fun w' e => (T1.out w' e).2.2.1) _ (v := .tuple #[.agg EC.toArray, .bool is]) rfl rfl (by rfl) (fun w' hF => exec_lookup rfl rfl rfl (LK.out _ hF)) ?_
  simp only [Act.put, List.setIfInBounds_toArray, List.set_cons_zero, List.set_cons_succ]
  repeat (first | (refine seq_read (fun _ => True) (fun _ _ => trivial) _ (v := ?_) rfl rfl (by rfl) ?_ ?_; rotate_left; (· intro w' hF; go_simp; (try with_reducible rfl)); simp only [Act.put, List.setIfInBounds_toArray, List.set_cons_zero, List.set_cons_succ]) | (refine seq_skip _ rfl rfl (by rfl) ?_; simp only [Act.put, List.setIfInBounds_toArray, List.set_cons_zero, List.set_cons_succ]))
  refine seq_do _ rfl rfl (by rfl) (fun K hK => ?_)
  go_simp
  refine hK.out _ _ (Below.alloc (Below.refl _ _) (Nat.le_of_eq hB.symm) _) ?_
  clear hK K
  try simp only [Act.put, List.setIfInBounds_toArray, List.set_cons_zero, List.set_cons_succ]
  have c9 : Cb (W.alloc (.cells ZK.toArray 84)) r9 84 ZK := by rw [← hB]; exact Cb.new _ _ _
  have c9' := Lib.hid (c9.set (L' := EC))
  refine seq_do _ rfl rfl (by rfl) (fun K hK => ?_)
  refine wp_store_row _ _ _ rfl r9 EC.toArray rfl rfl 84 ZK.toArray c9 (by rw [S_EC]; rfl) (by rw [S_EC, S_ZK]) O_EC ?_
  refine hK.out _ _ (below_setRow (Below.refl _ _) (Nat.le_refl _) _) ?_
  clear hK K
  try simp only [Act.put, List.setIfInBounds_toArray, List.set_cons_zero, List.set_cons_succ]
  repeat (first | (refine seq_read (fun _ => True) (fun _ _ => trivial) _ (v := ?_) rfl rfl (by rfl) ?_ ?_; rotate_left; (· intro w' hF; go_simp; (try with_reducible rfl)); simp only [Act.put, List.setIfInBounds_toArray, List.set_cons_zero, List.set_cons_succ]) | (refine seq_skip _ rfl rfl (by rfl) ?_; simp only [Act.put, List.setIfInBounds_toArray, List.set_cons_zero, List.set_cons_succ]))
  refine seq_done ?_
  have E2 : Below r9 W ((W.alloc (.cells ZK.toArray 84)).setRow r9 EC.toArray) := below_setRow (Below.alloc (Below.refl _ _) (Nat.le_of_eq hB.symm) _) (Nat.le_refl _) _
  refine gen_q (fun W => Cb W r6 31 zeros32.toList ∧ Cb W r8 82 PC ∧ Cb W r9 84 EC ∧ Ext w W) ⟨(T1.out _ E2).2.2.2, (T1.out _ E2).2.1, c9'.out, (T1.out _ E2).2.2.1⟩ ?_
  clear T1 E2 hB c9 c9' W
  rintro w2 ⟨k6, k8, k9, x2⟩
  rcases is with _ | _
  · obtain ⟨rfl, rfl⟩ := TN.out rfl
    have FIN : Hid (SK (w2.setRow r6 zeros32) g mb L2 puts ∧ Two g mb w (w2.setRow r6 zeros32)) := by
      have e : Ext w (w2.setRow r6 zeros32) := below_setRow x2 (by omega) _
      exact ⟨SE.out _ e, Two.of_ext e⟩
    have k6' : w2.heap[r6]? = some (.cells zeros32 31 (0, 0)) := by unfold Cb at k6; rwa [Array.toArray_toList] at k6
    clear SE TN DR C0 LK MK k6 k8 k9 x2
    go_wp2_with (first
      | (refine wpList_build_as rfl _ _ rfl zeros32 (by simp only [List.map_toArray, List.map_nil]; exact KZ.out) ?_; simp only [Act.put, List.setIfInBounds_toArray, List.set_cons_zero, List.set_cons_succ])
      | (refine wpList_store_row rfl 31 _ _ rfl r6 zeros32 rfl rfl 31 zeros32 k6' (by rw [S_Z]; rfl) rfl O_Z ?_; simp only [Act.put]))
    (try simp only [Exit.inBlock, Exit.then])
    refine bodyPost_ret (results_row_tmp rfl _ _ r6 31 zeros32 (0, 0) _ _ rfl rfl (setRow_heap _ _ _ _ _ _ k6') rfl rfl (by rw [S_Z]; rfl)) rfl ?_
    exact ⟨rfl, FIN.out.1, FIN.out.2⟩
  · clear TN LK SE KZ
    have T2 : Hid (∀ s, w2.drew.grownBy s (some mb) → s.cell? ⟨g, 0, none⟩ = some (.map (some mb)) ∧ Cb s r8 82 PC) := fun s e => by
      have hb : ∀ i, i < w2.heap.size → i ≠ mb → s.heap[i]? = w2.heap[i]? := fun i hi hne => e.block i hi (fun q => hne (Option.some.inj q))
      exact ⟨(cell_of_heap (hb g (Nat.lt_of_lt_of_le glt x2.size) gnb) _).trans (C0.out _ x2), (hb r8 k8.lt (by omega)).trans k8⟩
    have D2 := Lib.hid (DR.out w2.drew x2.drew)
    have K2 : Hid (∀ s, w2.drew.grownBy s (some mb) → Cb s r6 31 zeros32.toList ∧ Cb s r9 84 EC ∧ Two g mb w s) := fun s e => by
      have hb : ∀ i, i < w2.heap.size → i ≠ mb → s.heap[i]? = w2.heap[i]? := fun i hi hne => e.block i hi (fun q => hne (Option.some.inj q))
      refine ⟨(hb r6 k6.lt (by omega)).trans k6, (hb r9 k9.lt (by omega)).trans k9, e.os.trans x2.os, e.tape.trans x2.tape, e.output.trans x2.output, Nat.le_trans x2.size e.size, fun i hi h1 h2 => (hb i (Nat.lt_of_lt_of_le hi x2.size) h2).trans (x2.block i hi)⟩
    clear k6 k8 k9 x2 C0 DR
    go_upto_region 5 with fail
    refine wp_region_seq (R := fun a b => a.grownBy b (some mb)) (fun w => World.grownBy.refl w _) (fun _ _ _ => gr_trans) [0, 1, 2, 3, 4, 5] [5] [(0, 27, 2), (1, 28, 134217728), (2, 29, 268435456), (4, 30, 536870912), (0, 31, 512), (24, 0, 3221225472)] (by kernel_rfl) (by kernel_rfl) (by kernel_rfl) rfl (by kernel_rfl) (by kernel_rfl) (fun _ _ d _ _ h => by cases d <;> exact h) ?_
    generalize w2.drew = W at *
    clear w2
    repeat (first | (refine seq_read _ (fun w' e => (T2.out w' e).1) _ (v := ?_) rfl rfl (by rfl) ?_ ?_; rotate_left; (· intro w' hF; go_simp; (try with_reducible rfl)); simp only [Act.put, List.setIfInBounds_toArray, List.set_cons_zero, List.set_cons_succ]) | (refine seq_skip _ rfl rfl (by rfl) ?_; simp only [Act.put, List.setIfInBounds_toArray, List.set_cons_zero, List.set_cons_succ]))
    refine seq_read (fun w' => w'.heap[r8]? = some (.cells PC.toArray 82 (0, 0))) (fun w' e => (T2.out w' e).2) _ (v := .agg PC.toArray) rfl rfl (by rfl) (fun w' hF => exec_load_row rfl rfl hF rfl rfl (by rw [S_PC]; rfl)) ?_
    simp only [Act.put, List.setIfInBounds_toArray, List.set_cons_zero, List.set_cons_succ]
    repeat (first | (refine seq_read (fun _ => True) (fun _ _ => trivial) _ (v := ?_) rfl rfl (by rfl) ?_ ?_; rotate_left; (· intro w' hF; go_simp; (try with_reducible rfl)); simp only [Act.put, List.setIfInBounds_toArray, List.set_cons_zero, List.set_cons_succ]) | (refine seq_skip _ rfl rfl (by rfl) ?_; simp only [Act.put, List.setIfInBounds_toArray, List.set_cons_zero, List.set_cons_succ]))
    refine seq_do _ rfl rfl (by rfl) (fun K hK => ?_)
    obtain ⟨w3, d1, d2, d3⟩ := D2.out
    refine wp_delete rfl rfl rfl d1 ?_
    refine hK.out _ _ d3 ?_
    clear hK K
    try simp only [Act.put, List.setIfInBounds_toArray, List.set_cons_zero, List.set_cons_succ]
    repeat (first | (refine seq_read (fun _ => True) (fun _ _ => trivial) _ (v := ?_) rfl rfl (by rfl) ?_ ?_; rotate_left; (· intro w' hF; go_simp; (try with_reducible rfl)); simp only [Act.put, List.setIfInBounds_toArray, List.set_cons_zero, List.set_cons_succ]) | (refine seq_skip _ rfl rfl (by rfl) ?_; simp only [Act.put, List.setIfInBounds_toArray, List.set_cons_zero, List.set_cons_succ]))
    refine seq_done ?_
    refine gen_q (fun W => Cb W r6 31 zeros32.toList ∧ Cb W r9 84 EC ∧ Two g mb w W ∧ SK W g mb L2 puts) ⟨(K2.out _ d3).1, (K2.out _ d3).2.1, (K2.out _ d3).2.2, d2⟩ ?_
    clear K2 T2 D2 d1 d2 d3 w3 W
    rintro w4 ⟨k6, k9, t4, s4⟩
    have M9 : Hid (∀ j v, (cellsOf kk)[j]? = some v → w4.cell? ⟨r9, 0 + j, none⟩ = some v) := fun j v hv => by rw [Nat.zero_add]; exact k9.cell (MK.out j v hv)
    have k6' : w4.heap[r6]? = some (.cells zeros32 31 (0, 0)) := by unfold Cb at k6; rwa [Array.toArray_toList] at k6
    have FIN : Hid (SK (w4.setRow r6 (cellsOf kk).toArray) g mb L2 puts ∧ Two g mb w (w4.setRow r6 (cellsOf kk).toArray)) :=
      ⟨s4.stay (setRow_other _ _ _ _ (by omega)) (setRow_other _ _ _ _ (by omega)), t4.1, t4.2.1, t4.2.2.1, by have := t4.2.2.2.1; simpa using this, fun i hi h1 h2 => (setRow_other _ _ _ _ (by omega)).trans (t4.2.2.2.2 i hi h1 h2)⟩
    clear MK k6 k9 t4 s4
    go_wp2_with (first
      | ((with_reducible refine wpList_load_mid (o := ⟨some 32, _, _, _, _, _⟩) (ty := 31) (g := r9) (off := 0) (ys := cellsOf kk) ?_ rfl ?_ ?_ Try.underlying31 ?_ ?_ ?_); (· rfl); (· rfl); (· exact M9.out); (· rfl); (· rw [C_kk]; rfl); simp only [Act.put, List.setIfInBounds_toArray, List.set_cons_zero, List.set_cons_succ])
      | (refine wpList_store_row rfl 31 _ _ rfl r6 (cellsOf kk).toArray rfl rfl 31 zeros32 k6' (by rw [S_kk]; rfl) (by rw [S_kk, S_Z]) O_kk ?_; simp only [Act.put]))
    (try simp only [Exit.inBlock, Exit.then])
    refine bodyPost_ret (results_row_tmp rfl _ _ r6 31 (cellsOf kk).toArray (0, 0) _ _ rfl rfl (setRow_heap _ _ _ _ _ _ k6') rfl rfl (by rw [S_kk]; rfl)) rfl ?_
    exact ⟨rfl, FIN.out.1, FIN.out.2⟩
end Go.Proofs.Ytonjialkfbbhpaa
