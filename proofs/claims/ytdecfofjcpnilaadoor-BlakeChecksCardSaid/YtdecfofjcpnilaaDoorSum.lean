/-
  blake.Sum and blake.Check.
-/
import Derived.Test.YtdecfofjcpnilaaDoorMac
namespace Go.Proofs.YtdecfofjcpnilaaDoor
open Go.ChangeShapes Go.WideShapes Go.ChangeAt Go.RowKit Go.Deep

set_option maxRecDepth 100000 in
set_option maxHeartbeats 1000000 in
theorem sum_calls {A : Option Addr} {m d : Nat} {bs : List UInt8} {w : World} (h : Bs w A m d bs) {tg : TypeId × Nat × Nat} (hG : Gl w tg) :
    Calls Tryd.prog 10 #[.slice A m d] w fun e w' => e = .returned (.agg (cellsOf (macL [] bs)).toArray) ∧ Ext w w' := by
  have hal : ∀ w, (zeroValue 25).run Tryd.prog w = .ok (.agg zeros32) w := fun _ => by kernel_rfl
  have HL : (cellsOf (macL [] bs)).toArray.size = 32 := by simp [cellsOf_len, macL_len]
  have H1 := cellsOf_one (macL [] bs)
  have CALL : Hid (Calls Tryd.prog 8 #[.slice none 0 0, .slice A m d] (w.alloc (Obj.cells zeros32 25)) fun e w' => e = .returned (.tuple #[.agg (cellsOf (macL [] bs)).toArray, .int .i64 0]) ∧ Ext (w.alloc (Obj.cells zeros32 25)) w') :=
    mac_calls (Bs.nil _) (h.ext ((Ext.refl w).alloc _)) (by omega) (hG.kept ((Ext.refl w).alloc _) hG.lt)
  clear hG
  have hz0 := zeros32_size
  generalize zeros32 = Z at *
  generalize (cellsOf (macL [] bs)).toArray = D at *
  go_enter Tryd.func10, Tryd.ntmps10
  go_wp2_with fail
  refine CALL.out.mono ?_
  rintro e w1 ⟨rfl, e1⟩
  have r0 := Lib.hid ((e1.block w.heap.size (by rw [size_alloc]; omega)).trans (heap_alloc_new w (Obj.cells Z 25)))
  have r1 : Hid (((w1.alloc (Obj.cells Z 25)).setRow w1.heap.size D).heap[w.heap.size]? = some (Obj.cells Z 25)) := (setRow_other _ _ _ _ (Nat.ne_of_lt (heap_lt r0.out))).trans (((Ext.refl w1).alloc _ |>.block _ (heap_lt r0.out)).trans r0.out)
  clear CALL
  go_wp2_with (first
    | refine wpList_store_row rfl 25 _ _ rfl w1.heap.size D rfl rfl 25 _ (by with_reducible exact heap_alloc_new _ _) (by rw [HL]; rfl) (by rw [HL]; exact hz0) H1 ?_
    | refine wpList_load_row rfl 25 _ rfl w1.heap.size rfl 25 D (0, 0) _ (by with_reducible exact setRow_heap _ _ _ _ _ _ (heap_alloc_new _ _)) rfl rfl (by rw [HL]; rfl) ?_
    | refine wpList_store_row rfl 25 _ _ rfl w.heap.size D rfl rfl 25 Z (by with_reducible exact r1.out) (by rw [HL]; rfl) (by rw [HL]; exact hz0) H1 ?_)
  (try simp only [Exit.inBlock, Exit.then])
  refine bodyPost_ret (results_cell_row rfl _ _ w.heap.size 25 D (0, 0) _ rfl (setRow_heap _ _ _ _ _ _ r1.out) rfl rfl (by rw [HL]; rfl)) rfl ?_
  exact ⟨rfl, below_setRow (below_setRow ((((Ext.refl w).alloc _).trans e1).alloc _) (Nat.le_of_lt (heap_lt r0.out)) _) (Nat.le_refl _) _⟩

/-- What Check tells of a tag. -/
def checkE (ms ts : List UInt8) : Int := if ms = ts then 0 else 4
theorem checkE_pos {ms ts : List UInt8} (h : ms = ts) : checkE ms ts = 0 := if_pos h
theorem checkE_neg {ms ts : List UInt8} (h : ¬ ms = ts) : checkE ms ts = 4 := if_neg h
/-- A key's own bytes. -/
theorem Bs.key {w : World} {g : Nat} {t : TypeId} {xs : List UInt8} (h : w.heap[g]? = some (.cells (cellsOf xs).toArray t (0, 0))) (hl : xs.length = 32) : Bs w (some ⟨g, 0, none⟩) 32 32 xs := by
  have := Bs.part h (o := 0) (n := 32) (c := 32) (by omega) (by omega) (by omega)
  rw [List.drop_zero, List.take_of_length_le (by omega)] at this
  exact this

set_option maxRecDepth 100000 in
set_option maxHeartbeats 1000000 in
theorem check_long {A A' : Option Addr} {n c m d : Nat} {ks bs ts : List UInt8} {w : World} (h : Bs w A n c ks) (h' : Bs w A' m d bs) (ht : ts.length = 32) (hk : 32 < n) :
    Calls Tryd.prog 12 #[.slice A n c, .slice A' m d, .agg (cellsOf ts).toArray] w fun e w' => e = .returned (.int .i64 1) ∧ Ext w w' := by
  have hal : ∀ w, (zeroValue 25).run Tryd.prog w = .ok (.agg zeros32) w := fun _ => by kernel_rfl
  have hz0 := zeros32_size
  have hz1 := zeros32_one
  have CALL : Hid (∀ W, Ext w W → Calls Tryd.prog 8 #[.slice A n c, .slice A' m d] W fun e w' => e = .returned (.tuple #[.agg zeros32, .int .i64 1]) ∧ Ext W w') := fun W e => by
    have := mac_long (h.ext e) (h'.ext e) hk
    rwa [zeros32_cells] at this
  generalize zeros32 = Z at *
  generalize (cellsOf ts).toArray = T at *
  go_enter Tryd.func12, Tryd.ntmps12
  go_wp2_with fail
  refine (CALL.out _ ((Ext.refl w).alloc _)).mono ?_
  rintro e w1 ⟨rfl, e1⟩
  go_wp2_with (refine wpList_store_row rfl 25 _ _ rfl w1.heap.size Z rfl rfl 25 _ (by with_reducible exact heap_alloc_new _ _) (by rw [hz0]; rfl) rfl hz1 ?_)
  go_ret
  exact ⟨rfl, below_setRow (((((Ext.refl w).alloc _).trans e1)).alloc _) (Nat.le_trans (by simp) e1.size) _⟩

set_option maxRecDepth 100000 in
set_option maxHeartbeats 1000000 in
theorem check_calls {A A' : Option Addr} {n c m d : Nat} {ks bs ts : List UInt8} {w : World} (h : Bs w A n c ks) (h' : Bs w A' m d bs) (ht : ts.length = 32) (hk : n ≤ 32) {tg : TypeId × Nat × Nat} (hG : Gl w tg) :
    Calls Tryd.prog 12 #[.slice A n c, .slice A' m d, .agg (cellsOf ts).toArray] w fun e w' => e = .returned (.int .i64 (checkE (macL ks bs) ts)) ∧ Ext w w' := by
  have hal : ∀ w, (zeroValue 25).run Tryd.prog w = .ok (.agg zeros32) w := fun _ => by kernel_rfl
  have hz0 := zeros32_size
  have CALL : Hid (∀ W, Ext w W → Calls Tryd.prog 8 #[.slice A n c, .slice A' m d] W fun e w' => e = .returned (.tuple #[.agg (cellsOf (macL ks bs)).toArray, .int .i64 0]) ∧ Ext W w') := fun W e => mac_calls (h.ext e) (h'.ext e) hk (hG.kept e hG.lt)
  clear hG
  have ML := macL_len ks bs
  generalize zeros32 = Z at *
  generalize macL ks bs = ms at *
  have HM : (cellsOf ms).toArray.size = 32 := by simp [cellsOf_len, ML]
  have HM1 := cellsOf_one ms
  have hT : Hid (∀ w : World, (w.alloc (Obj.cells (cellsOf ts).toArray 25)).heap[w.heap.size]? = some (Obj.cells (cellsOf ts).toArray 25)) := fun w => heap_alloc_new _ _
  generalize hTT : (cellsOf ts).toArray = T at *
  replace hTT := Lib.hid hTT
  go_enter Tryd.func12, Tryd.ntmps12
  go_wp2_with fail
  refine (CALL.out _ ((Ext.refl w).alloc _)).mono ?_
  rintro e w1 ⟨rfl, e1⟩
  have r0 := Lib.hid ((e1.block w.heap.size (by rw [size_alloc]; omega)).trans (hT.out w))
  have e0 : Hid (Ext w w1) := ((Ext.refl w).alloc _).trans e1
  clear CALL hT e1
  go_wp2_with (refine wpList_store_row rfl 25 _ _ rfl w1.heap.size (cellsOf ms).toArray rfl rfl 25 _ (by with_reducible exact heap_alloc_new _ _) (by rw [HM]; rfl) (by rw [HM]; exact hz0) HM1 ?_)
  refine wp_gen (fun W => Ext w W ∧ W.heap[w.heap.size]? = some (Obj.cells T 25 (0, 0)) ∧ W.heap[w1.heap.size]? = some (Obj.cells (cellsOf ms).toArray 25 (0, 0))) ⟨below_setRow (e0.out.alloc _) e0.out.size _, (setRow_other _ _ _ _ (Nat.ne_of_lt (heap_lt r0.out))).trans (((Ext.refl w1).alloc _ |>.block _ (heap_lt r0.out)).trans r0.out), setRow_heap _ _ _ _ _ _ (heap_alloc_new _ _)⟩ ?_
  rintro W ⟨e2, t2, m2⟩
  rw [← hTT.out] at t2
  replace e2 := Lib.hid e2
  replace t2 := Lib.hid (Bs.key t2 ht)
  replace m2 := Lib.hid (Bs.key m2 ML)
  clear e0 r0
  by_cases hq : ms = ts
  · have SAME : Hid (∀ W', Ext W W' → Calls Tryd.prog 19 #[.slice (some ⟨w1.heap.size, 0, none⟩) 32 32, .slice (some ⟨w.heap.size, 0, none⟩) 32 32] W' fun e w' => e = .returned (.bool true) ∧ Ext W' w') := fun W' e => same_ext (m2.out.ext e) (t2.out.ext e) (by simpa using hq)
    have HQ := Lib.hid hq
    clear hq
    refine wp_region_seq (R := Ext) Ext.refl (fun _ _ _ => Ext.trans) [0, 1, 2, 3] [2] [(0, 19, 256), (0, 20, 64), (3, 21, 1572864), (4, 22, 2097152)] (by kernel_rfl) (by kernel_rfl) (by kernel_rfl) rfl (by kernel_rfl) (by kernel_rfl) (fun _ _ d _ _ h => by cases d <;> exact h) ?_
    repeat (first | (refine seq_read (fun _ => True) (fun _ _ => trivial) _ (v := ?_) rfl rfl (by rfl) ?_ ?_; rotate_left; (· intro w' hF; go_simp; (try with_reducible rfl)); simp only [Act.put, List.setIfInBounds_toArray, List.set_cons_zero, List.set_cons_succ]) | (refine seq_skip _ rfl rfl (by rfl) ?_; simp only [Act.put, List.setIfInBounds_toArray, List.set_cons_zero, List.set_cons_succ]))
    refine seq_do _ rfl rfl (by rfl) (fun K hK => ?_)
    go_simp
    refine (SAME.out _ (Ext.refl _).drew).mono ?_
    rintro e w2 ⟨rfl, e3⟩
    refine hK.out _ _ e3 ?_
    clear hK K
    try simp only [Act.put, List.setIfInBounds_toArray, List.set_cons_zero, List.set_cons_succ]
    repeat (first | (refine seq_read (fun _ => True) (fun _ _ => trivial) _ (v := ?_) rfl rfl (by rfl) ?_ ?_; rotate_left; (· intro w' hF; go_simp; (try with_reducible rfl)); simp only [Act.put, List.setIfInBounds_toArray, List.set_cons_zero, List.set_cons_succ]) | (refine seq_skip _ rfl rfl (by rfl) ?_; simp only [Act.put, List.setIfInBounds_toArray, List.set_cons_zero, List.set_cons_succ]))
    refine seq_done ?_
    go_wp2_with fail
    go_ret
    exact ⟨by rw [checkE_pos HQ.out]; rfl, e2.out.drew.trans e3⟩
  · have SAME : Hid (∀ W', Ext W W' → Calls Tryd.prog 19 #[.slice (some ⟨w1.heap.size, 0, none⟩) 32 32, .slice (some ⟨w.heap.size, 0, none⟩) 32 32] W' fun e w' => e = .returned (.bool false) ∧ Ext W' w') := fun W' e => same_ext (m2.out.ext e) (t2.out.ext e) (by simpa using hq)
    have HQ := Lib.hid hq
    clear hq
    refine wp_region_seq (R := Ext) Ext.refl (fun _ _ _ => Ext.trans) [0, 1, 2, 3] [2] [(0, 19, 256), (0, 20, 64), (3, 21, 1572864), (4, 22, 2097152)] (by kernel_rfl) (by kernel_rfl) (by kernel_rfl) rfl (by kernel_rfl) (by kernel_rfl) (fun _ _ d _ _ h => by cases d <;> exact h) ?_
    repeat (first | (refine seq_read (fun _ => True) (fun _ _ => trivial) _ (v := ?_) rfl rfl (by rfl) ?_ ?_; rotate_left; (· intro w' hF; go_simp; (try with_reducible rfl)); simp only [Act.put, List.setIfInBounds_toArray, List.set_cons_zero, List.set_cons_succ]) | (refine seq_skip _ rfl rfl (by rfl) ?_; simp only [Act.put, List.setIfInBounds_toArray, List.set_cons_zero, List.set_cons_succ]))
    refine seq_do _ rfl rfl (by rfl) (fun K hK => ?_)
    go_simp
    refine (SAME.out _ (Ext.refl _).drew).mono ?_
    rintro e w2 ⟨rfl, e3⟩
    refine hK.out _ _ e3 ?_
    clear hK K
    try simp only [Act.put, List.setIfInBounds_toArray, List.set_cons_zero, List.set_cons_succ]
    repeat (first | (refine seq_read (fun _ => True) (fun _ _ => trivial) _ (v := ?_) rfl rfl (by rfl) ?_ ?_; rotate_left; (· intro w' hF; go_simp; (try with_reducible rfl)); simp only [Act.put, List.setIfInBounds_toArray, List.set_cons_zero, List.set_cons_succ]) | (refine seq_skip _ rfl rfl (by rfl) ?_; simp only [Act.put, List.setIfInBounds_toArray, List.set_cons_zero, List.set_cons_succ]))
    refine seq_done ?_
    go_wp2_with fail
    go_ret
    exact ⟨by rw [checkE_neg HQ.out]; rfl, e2.out.drew.trans e3⟩
end Go.Proofs.YtdecfofjcpnilaaDoor
