/-
  chain.Walk.
-/
import Derived.Test.YthdjojindijmnaaDoorStep
import Derived.Test.YthdjojindijmnaaDoorOwnK
import Derived.WalkMore
namespace Go.Proofs.YthdjojindijmnaaDoor
open Go.ChangeShapes Go.WideShapes Go.ChangeAt Go.RowKit Go.Deep

/-- The chain behind i steps; the message keys of m steps. -/
def chAt (ks : List UInt8) : Nat → List UInt8
  | 0 => ks
  | i + 1 => keyL (chAt ks i) chnS
def msgL (ks : List UInt8) (m : Nat) : List (List UInt8) := (List.range m).map fun i => keyL (chAt ks i) msgS
theorem chAt_len {ks : List UInt8} (h : ks.length = 32) : ∀ i, (chAt ks i).length = 32
  | 0 => h
  | i + 1 => keyL_len _ _
theorem msgL_succ (ks : List UInt8) (m : Nat) : msgL ks (m + 1) = msgL ks m ++ [keyL (chAt ks m) msgS] := by simp [msgL, List.range_succ]
/-- What Walk tells. -/
def RetWalk (l : List (List UInt8)) (last : List UInt8) (er : Int) (w : World) (e : Ending) (w' : World) : Prop :=
  ∃ A c, e = .returned (.tuple #[.slice A l.length c, .agg (cellsOf last).toArray, .int .i64 er]) ∧ Kl w' A l.length l ∧ l.length ≤ c ∧ c ≤ 9223372036854775807 ∧ Ext w w' ∧ ∀ b, A = some ⟨b, 0, none⟩ → w.heap.size ≤ b

set_option maxRecDepth 100000 in
set_option maxHeartbeats 1000000 in
theorem walk_err {ks : List UInt8} {m : Int} {w : World} (h : m < 0 ∨ 8 < m) :
    Calls Tryd.prog 28 #[.agg (cellsOf ks).toArray, .int .i64 m] w (RetWalk [] (List.replicate 32 0) 6 w) := by
  have hal := key_alloc
  have hb := zeros32_built
  have hs := zeros32_size
  have ho := zeros32_one
  have hc := Lib.hid zeros32_cells
  have hz : Hid (((w.alloc (Obj.cells (cellsOf ks).toArray 23)).alloc (Obj.cells zeros32 23)).heap[w.heap.size + 1]? = some (Obj.cells zeros32 23)) := heap_alloc2 _ _ _
  have he : Hid (∀ C, Ext w (((w.alloc (Obj.cells (cellsOf ks).toArray 23)).alloc (Obj.cells zeros32 23)).setRow (w.heap.size + 1) C)) := fun C => below_setRow (((Ext.refl w).alloc _).alloc _) (Nat.le_succ _) _
  unfold RetWalk
  rw [hc.out]
  clear hc
  generalize zeros32 = Z at *
  by_cases q1 : m < 0
  · have q1' : decide (m < 0) = true := decide_eq_true q1
    clear h
    go_enter Tryd.func28, Tryd.ntmps28
    go_wp2_with fail
    go_step3
    go_wp2_with (first
      | refine wpList_build_as rfl _ _ rfl Z hb ?_
      | refine wpList_store_row rfl 23 _ _ rfl (w.heap.size + 1) Z rfl rfl 23 _ (by with_reducible exact hz.out) (by rw [hs]; rfl) rfl ho ?_)
    (try simp only [Exit.inBlock, Exit.then])
    rw [Exit.noGoto_ret]
    refine bodyPost_ret (v := .tuple #[.slice none 0 0, .agg Z, .int .i64 6]) ?_ rfl ?_
    · exact results_trt rfl _ _ (w.heap.size + 1) 23 Z (0, 0) _ _ _ rfl rfl rfl (setRow_heap _ _ _ _ _ _ hz.out) rfl rfl (by rw [hs]; rfl)
    · exact ⟨none, 0, rfl, ⟨rfl, fun x hx => by simp at hx, fun h => absurd h (by simp)⟩, by simp, by omega, he.out _, fun b h => by cases h⟩
  · have q1' : decide (m < 0) = false := decide_eq_false q1
    have q2' : decide (8 < m) = true := decide_eq_true (by omega)
    clear h
    go_enter Tryd.func28, Tryd.ntmps28
    go_wp2_with fail
    go_step3
    go_wp2_with (first
      | refine wpList_build_as rfl _ _ rfl Z hb ?_
      | refine wpList_store_row rfl 23 _ _ rfl (w.heap.size + 1) Z rfl rfl 23 _ (by with_reducible exact hz.out) (by rw [hs]; rfl) rfl ho ?_)
    (try simp only [Exit.inBlock, Exit.then])
    rw [Exit.noGoto_ret]
    refine bodyPost_ret (v := .tuple #[.slice none 0 0, .agg Z, .int .i64 6]) ?_ rfl ?_
    · exact results_trt rfl _ _ (w.heap.size + 1) 23 Z (0, 0) _ _ _ rfl rfl rfl (setRow_heap _ _ _ _ _ _ hz.out) rfl rfl (by rw [hs]; rfl)
    · exact ⟨none, 0, rfl, ⟨rfl, fun x hx => by simp at hx, fun h => absurd h (by simp)⟩, by simp, by omega, he.out _, fun b h => by cases h⟩

set_option maxRecDepth 100000 in
set_option maxHeartbeats 4000000 in
theorem walk_calls {ks : List UInt8} {m : Nat} {w : World} (hk : ks.length = 32) (hm : m ≤ 8) {tg : TypeId × Nat × Nat} (hG : Gl w tg) :
    Calls Tryd.prog 28 #[.agg (cellsOf ks).toArray, .int .i64 (m : Int)] w (RetWalk (msgL ks m) (chAt ks m) 0 w) := by
  have q1' : decide ((m : Int) < 0) = false := decide_eq_false (by omega)
  have q2' : decide ((8 : Int) < (m : Int)) = false := decide_eq_false (by omega)
  have HG := Lib.hid (fun W (e : Ext w W) => Gl.kept hG (w' := W) e hG.lt)
  clear hG
  have hal := key_alloc
  have hz0 := zeros32_size
  have LM : (msgL ks m).length = m := by simp [msgL]
  generalize zeros32 = Z at *
  have B0 : Hid (Ky ((w.alloc (Obj.cells (cellsOf ks).toArray 23)).alloc (Obj.cells Z 23)) w.heap.size ks ∧ ((w.alloc (Obj.cells (cellsOf ks).toArray 23)).alloc (Obj.cells Z 23)).heap[w.heap.size + 1]? = some (.cells Z 23 (0, 0)) ∧ Ext w ((w.alloc (Obj.cells (cellsOf ks).toArray 23)).alloc (Obj.cells Z 23))) :=
    ⟨⟨heap_alloc1 _ _ _, hk⟩, heap_alloc2 _ _ _, ((Ext.refl w).alloc _).alloc _⟩
  go_enter Tryd.func28, Tryd.ntmps28
  go_wp2_with fail
  go_step3
  go_wp2_with fail
  go_step3
  go_wp2_with fail
  go_loopw [7, 18] (fun mv v wr => ∃ (k : Nat) (D : Option Addr) (cc : Nat), k ≤ m ∧ v = .int .i64 (k : Int) ∧ mv = .slice D k cc ∧ OwnK (w.heap.size + 1 + 1) wr D k cc (msgL ks k) ∧ Ky wr w.heap.size (chAt ks k) ∧ wr.heap[w.heap.size + 1]? = some (.cells Z 23 (0, 0)) ∧ Ext w wr) (fun _ v _ => 8 - (intOf v).toNat)
  case atStart => exact ⟨0, none, 0, Nat.zero_le _, rfl, rfl, OwnK.nil _ _, B0.out.1, B0.out.2.1, B0.out.2.2⟩
  case round =>
    obtain ⟨k, D, cc, hkm, rfl, rfl, own, ky, rr, he⟩ := hrel
    clear B0
    have CS : (cellsOf (chAt ks k)).toArray.size = 32 := by simp [cellsOf_len, chAt_len hk]
    by_cases hlt : k < m
    · have e0 : ((k : Int) == (m : Int)) = false := by simp; omega
      have e1 : (k == m) = false := by simp; omega
      have k8 : (k : Int) < 8 := by omega
      have zr := heap_lt rr
      have STEP := Lib.hid (step_calls (chAt_len hk k) (HG.out _ he))
      have M0 := keyL_len (chAt ks k) msgS
      have M1 := keyL_len (chAt ks k) chnS
      have MS : Hid (msgL ks (k + 1) = msgL ks k ++ [keyL (chAt ks k) msgS]) := msgL_succ ks k
      have CH : Hid (chAt ks (k + 1) = keyL (chAt ks k) chnS) := rfl
      generalize keyL (chAt ks k) msgS = k0 at *
      generalize keyL (chAt ks k) chnS = k1 at *
      generalize chAt ks k = ck at *
      have S0 : (cellsOf k0).toArray.size = 32 := by simp [cellsOf_len, M0]
      have S1 : (cellsOf k1).toArray.size = 32 := by simp [cellsOf_len, M1]
      have O0 := cellsOf_one k0
      have O1 := cellsOf_one k1
      replace own := Lib.hid own
      replace ky := Lib.hid ky
      replace rr := Lib.hid rr
      replace he := Lib.hid he
      replace LM := Lib.hid LM
      go_wp2_with (refine wpList_load_row rfl 23 _ rfl w.heap.size rfl 23 (cellsOf ck).toArray (0, 0) _ ky.out.1 rfl rfl (by rw [CS]; rfl) ?_; simp only [Act.put, List.setIfInBounds_toArray, List.set_cons_zero, List.set_cons_succ])
      refine STEP.out.mono ?_
      rintro e w1 ⟨rfl, x1⟩
      have a1 : Hid (((w1.alloc (Obj.cells Z 23)).alloc (Obj.cells Z 23)).heap[w1.heap.size]? = some (.cells Z 23 (0, 0))) := heap_alloc1 _ _ _
      have a2 : Hid ((((w1.alloc (Obj.cells Z 23)).alloc (Obj.cells Z 23)).setRow w1.heap.size (cellsOf k0).toArray).heap[w1.heap.size + 1]? = some (.cells Z 23 (0, 0))) := (setRow_other _ _ _ _ (by omega)).trans (heap_alloc2 _ _ _)
      clear STEP
      go_upto_region 9 with (first
        | (refine wpList_store_row rfl 23 _ _ rfl w1.heap.size (cellsOf k0).toArray rfl rfl 23 Z a1.out (by rw [S0]; rfl) (by rw [S0]; exact hz0) O0 ?_; simp only [Act.put, List.setIfInBounds_toArray, List.set_cons_zero, List.set_cons_succ])
        | (refine wpList_store_row rfl 23 _ _ rfl (w1.heap.size + 1) (cellsOf k1).toArray rfl rfl 23 Z a2.out (by rw [S1]; rfl) (by rw [S1]; exact hz0) O1 ?_; simp only [Act.put, List.setIfInBounds_toArray, List.set_cons_zero, List.set_cons_succ]))
      obtain ⟨g, hg⟩ : ∃ g, g = w1.heap.size := ⟨_, rfl⟩
      have zg : wr.heap.size ≤ g := by rw [hg]; exact x1.size
      refine wp_gen (fun W => Ext wr W ∧ Ky W g k0 ∧ Ky W (g + 1) k1) ⟨x1.trans (below_setRow (below_setRow (((Ext.refl w1).alloc _).alloc _) (Nat.le_refl _) _) (Nat.le_succ _) _), ⟨by rw [hg]; exact (setRow_other _ _ _ _ (by omega)).trans (setRow_heap _ _ _ _ _ _ a1.out), M0⟩, ⟨by rw [hg]; exact setRow_heap _ _ _ _ _ _ a2.out, M1⟩⟩ ?_
      rw [← hg]
      clear hg a1 a2 x1
      rintro w2 ⟨x2, y0, y1⟩
      have b2 : Hid (OwnK (w.heap.size + 1 + 1) w2 D k cc (msgL ks k)) := own.out.ext x2
      have OB : Hid (∀ q, Value.ownBlock (.slice D k cc) = some q → q < wr.heap.size) := fun q hq => (World.ownsRow.lt own.out.1 q hq).2
      have KB : Hid (Ky w2 w.heap.size ck) := ky.out.ext x2
      have RB : Hid (w2.heap[w.heap.size + 1]? = some (.cells Z 23 (0, 0))) := (x2.block _ zr).trans rr.out
      replace y0 := Lib.hid y0
      replace y1 := Lib.hid y1
      have zz := Nat.le_trans (show w.heap.size + 1 + 1 ≤ wr.heap.size from zr) x2.size
      replace x2 := Lib.hid x2
      clear own
      have ys := heap_lt y1.out.1
      go_upto_region 10 with (first
        | (refine wpList_load_row rfl 23 _ rfl g rfl 23 (cellsOf k0).toArray (0, 0) _ y0.out.1 rfl rfl (by rw [S0]; rfl) ?_; simp only [Act.put, List.setIfInBounds_toArray, List.set_cons_zero, List.set_cons_succ])
        | (refine wpList_slice_k rfl (g := w2.heap.size) (k := k0) (x := .tmp 28) M0 rfl rfl rfl ?_; simp only [Act.put, List.setIfInBounds_toArray, List.set_cons_zero, List.set_cons_succ])
        | (at_builtin; (with_reducible refine wpList_append_k rfl (g := w2.heap.size) (k := k0) (fr := (0, 0)) (B := w.heap.size + 1 + 1) (s := .tmp 27) (x := .tmp 29) rfl rfl rfl (b2.out.ext ((Ext.refl _).alloc _)) (heap_alloc_new _ _) M0 (by omega) (Nat.le_trans zz (by simp)) ?_); intro A5 c5 w5 o5 g5 b5; replace o5 := Lib.hid o5; replace b5 := Lib.hid b5; replace g5 := Lib.hid g5; simp only [Act.put, List.setIfInBounds_toArray, List.set_cons_zero, List.set_cons_succ]))
      have K5 : Hid (Ky w5 (g + 1) k1) := ⟨(g5.out.block (g + 1) (by simp; omega) (fun q => by have := OB.out (g + 1) q.symm; omega)).trans ((y1.out.ext ((Ext.refl _).alloc _)).1), M1⟩
      have C5 : Hid (Ky w5 w.heap.size ck) := ⟨(b5.out.block _ (by omega)).trans (KB.out.ext ((Ext.refl _).alloc _)).1, KB.out.2⟩
      have R5 : Hid (w5.heap[w.heap.size + 1]? = some (.cells Z 23 (0, 0))) := (b5.out.block _ (by omega)).trans ((Below.heap_alloc _ _ _ (by omega)).trans RB.out)
      have E5 : Hid (Ext w w5) := Below.trans ((he.out.trans x2).alloc _) (b5.out.mono (by omega))
      clear y0 y1 b2 b5 g5 KB RB he OB
      go_wp2_with (first
        | (refine wpList_load_row rfl 23 _ rfl (g + 1) rfl 23 (cellsOf k1).toArray (0, 0) _ K5.out.1 rfl rfl (by rw [S1]; rfl) ?_; simp only [Act.put, List.setIfInBounds_toArray, List.set_cons_zero, List.set_cons_succ])
        | (refine wpList_store_row rfl 23 _ _ rfl w.heap.size (cellsOf k1).toArray rfl rfl 23 _ C5.out.1 (by rw [S1]; rfl) (by rw [S1, CS]) O1 ?_; simp only [Act.put, List.setIfInBounds_toArray, List.set_cons_zero, List.set_cons_succ]))
      refine ⟨⟨k + 1, A5, c5, by omega, by go_num, rfl, ?_, ?_, ?_, ?_⟩, by simp [intOf]; omega⟩
      · rw [MS.out]
        exact o5.out.kept ⟨rfl, rfl, rfl, by simp, fun i hi hne => setRow_other _ _ _ _ (fun q => hne (by rw [q]))⟩ (.inr (fun q => by have := o5.out.ge _ q; omega))
      · rw [CH.out]
        exact C5.out.put M1
      · exact (setRow_other _ _ _ _ (by omega)).trans R5.out
      · exact below_setRow E5.out (Nat.le_refl _) _
    · have hkk : k = m := by omega
      subst hkk
      have O : Hid (OwnK (w.heap.size + 1 + 1) wr D k cc (msgL ks k)) := own
      have Kc := Lib.hid ky
      have Rc := Lib.hid rr
      have Ec := Lib.hid he
      have LMc := Lib.hid LM
      have zr := heap_lt rr
      clear own ky rr he LM HG hkm hm hlt
      have M1 : (chAt ks k).length = 32 := chAt_len hk k
      generalize chAt ks k = ck at *
      have S1 := CS
      have O1 := cellsOf_one ck
      have FIN : Hid (∀ C : Array Value, RetWalk (msgL ks k) ck 0 w (.returned (.tuple #[.slice D k cc, .agg (cellsOf ck).toArray, .int .i64 0])) (wr.drew.setRow (w.heap.size + 1) C)) := fun C =>
        ⟨D, cc, by rw [LMc.out], by
          rw [LMc.out]
          exact OwnK.kl ((O.out.ext (Ext.refl _).drew).kept ⟨rfl, rfl, rfl, by simp, fun i hi hne => setRow_other _ _ _ _ (fun q => hne (by rw [q]))⟩ (.inr (fun q => by have := O.out.ge _ q; omega))), by rw [LMc.out]; exact O.out.cap.1, O.out.cap.2, below_setRow Ec.out.drew (Nat.le_succ _) _, fun b hb => by have := O.out.fresh hb; omega⟩
      generalize RetWalk (msgL ks k) ck 0 w = RW at *
      have KEEPC : Hid (∀ w', wr.grownBy w' (some (w.heap.size + 1)) → Ky w' w.heap.size ck) := fun w' e => ⟨(e.block w.heap.size (by omega) (fun q => by injection q with q; omega)).trans Kc.out.1, M1⟩
      by_cases h8 : k < 8
      · have e0 : ((k : Int) == (k : Int)) = true := by simp
        have i8 : (k : Int) < 8 := by omega
        clear h8
        go_wp2_with fail
        refine wp_region_seq (R := fun a b => a.grownBy b (some (w.heap.size + 1))) (fun w => World.grownBy.refl w _) (fun _ _ _ => gr_trans) [0, 1, 2, 3, 4] [3] [(0, 37, 256), (0, 38, 8), (1, 5, 137438953472), (7, 0, 274877907008), (15, 7, 0)] (by kernel_rfl) (by kernel_rfl) (by kernel_rfl) rfl (by kernel_rfl) (by kernel_rfl) (fun _ _ d _ _ h => by cases d <;> exact h) ?_
        repeat (first | (refine seq_read (fun _ => True) (fun _ _ => trivial) _ (v := ?_) rfl rfl (by rfl) ?_ ?_; rotate_left; (· intro w' hF; go_simp; (try with_reducible rfl)); simp only [Act.put, List.setIfInBounds_toArray, List.set_cons_zero, List.set_cons_succ]) | (refine seq_skip _ rfl rfl (by rfl) ?_; simp only [Act.put, List.setIfInBounds_toArray, List.set_cons_zero, List.set_cons_succ]))
        refine seq_read (fun w' => w'.heap[w.heap.size]? = some (.cells (cellsOf ck).toArray 23 (0, 0))) (fun w' e => (KEEPC.out w' (gr_trans (gr_ext (Ext.refl _).drew _) e)).1) _ (v := .agg (cellsOf ck).toArray) rfl rfl (by rfl) (fun w' hF => exec_load_row rfl rfl hF rfl rfl (by rw [S1]; rfl)) ?_
        simp only [Act.put, List.setIfInBounds_toArray, List.set_cons_zero, List.set_cons_succ]
        repeat (first | (refine seq_read (fun _ => True) (fun _ _ => trivial) _ (v := ?_) rfl rfl (by rfl) ?_ ?_; rotate_left; (· intro w' hF; go_simp; (try with_reducible rfl)); simp only [Act.put, List.setIfInBounds_toArray, List.set_cons_zero, List.set_cons_succ]) | (refine seq_skip _ rfl rfl (by rfl) ?_; simp only [Act.put, List.setIfInBounds_toArray, List.set_cons_zero, List.set_cons_succ]))
        refine seq_do _ rfl rfl (by rfl) (fun K1 hK1 => ?_)
        refine wp_store_row _ _ _ rfl (w.heap.size + 1) (cellsOf ck).toArray rfl rfl 23 _ Rc.out (by rw [S1]; rfl) (by rw [S1, hz0]) O1 ?_
        refine hK1.out _ _ (gr_row _ _ _) ?_
        clear hK1 K1
        try simp only [Act.put, List.setIfInBounds_toArray, List.set_cons_zero, List.set_cons_succ]
        repeat (first | (refine seq_read (fun _ => True) (fun _ _ => trivial) _ (v := ?_) rfl rfl (by rfl) ?_ ?_; rotate_left; (· intro w' hF; go_simp; (try with_reducible rfl)); simp only [Act.put, List.setIfInBounds_toArray, List.set_cons_zero, List.set_cons_succ]) | (refine seq_skip _ rfl rfl (by rfl) ?_; simp only [Act.put, List.setIfInBounds_toArray, List.set_cons_zero, List.set_cons_succ]))
        refine seq_done ?_
        go_wp2_with fail
        (try simp only [Exit.inBlock, Exit.then])
        rw [Exit.noGoto_ret]
        refine bodyPost_ret (v := .tuple #[.slice D k cc, .agg (cellsOf ck).toArray, .int .i64 0]) ?_ rfl (FIN.out _)
        exact results_trt rfl _ _ (w.heap.size + 1) 23 (cellsOf ck).toArray (0, 0) _ _ _ rfl rfl rfl (setRow_heap _ _ _ _ _ _ Rc.out) rfl rfl (by rw [S1]; rfl)
      · have i8 : ¬ ((k : Int) < 8) := by omega
        clear h8
        go_wp2_with fail
        refine wp_region_seq (R := fun a b => a.grownBy b (some (w.heap.size + 1))) (fun w => World.grownBy.refl w _) (fun _ _ _ => gr_trans) [0, 1, 2, 3, 4] [3] [(0, 37, 256), (0, 38, 8), (1, 5, 137438953472), (7, 0, 274877907008), (15, 7, 0)] (by kernel_rfl) (by kernel_rfl) (by kernel_rfl) rfl (by kernel_rfl) (by kernel_rfl) (fun _ _ d _ _ h => by cases d <;> exact h) ?_
        repeat (first | (refine seq_read (fun _ => True) (fun _ _ => trivial) _ (v := ?_) rfl rfl (by rfl) ?_ ?_; rotate_left; (· intro w' hF; go_simp; (try with_reducible rfl)); simp only [Act.put, List.setIfInBounds_toArray, List.set_cons_zero, List.set_cons_succ]) | (refine seq_skip _ rfl rfl (by rfl) ?_; simp only [Act.put, List.setIfInBounds_toArray, List.set_cons_zero, List.set_cons_succ]))
        refine seq_read (fun w' => w'.heap[w.heap.size]? = some (.cells (cellsOf ck).toArray 23 (0, 0))) (fun w' e => (KEEPC.out w' (gr_trans (gr_ext (Ext.refl _).drew _) e)).1) _ (v := .agg (cellsOf ck).toArray) rfl rfl (by rfl) (fun w' hF => exec_load_row rfl rfl hF rfl rfl (by rw [S1]; rfl)) ?_
        simp only [Act.put, List.setIfInBounds_toArray, List.set_cons_zero, List.set_cons_succ]
        repeat (first | (refine seq_read (fun _ => True) (fun _ _ => trivial) _ (v := ?_) rfl rfl (by rfl) ?_ ?_; rotate_left; (· intro w' hF; go_simp; (try with_reducible rfl)); simp only [Act.put, List.setIfInBounds_toArray, List.set_cons_zero, List.set_cons_succ]) | (refine seq_skip _ rfl rfl (by rfl) ?_; simp only [Act.put, List.setIfInBounds_toArray, List.set_cons_zero, List.set_cons_succ]))
        refine seq_do _ rfl rfl (by rfl) (fun K1 hK1 => ?_)
        refine wp_store_row _ _ _ rfl (w.heap.size + 1) (cellsOf ck).toArray rfl rfl 23 _ Rc.out (by rw [S1]; rfl) (by rw [S1, hz0]) O1 ?_
        refine hK1.out _ _ (gr_row _ _ _) ?_
        clear hK1 K1
        try simp only [Act.put, List.setIfInBounds_toArray, List.set_cons_zero, List.set_cons_succ]
        repeat (first | (refine seq_read (fun _ => True) (fun _ _ => trivial) _ (v := ?_) rfl rfl (by rfl) ?_ ?_; rotate_left; (· intro w' hF; go_simp; (try with_reducible rfl)); simp only [Act.put, List.setIfInBounds_toArray, List.set_cons_zero, List.set_cons_succ]) | (refine seq_skip _ rfl rfl (by rfl) ?_; simp only [Act.put, List.setIfInBounds_toArray, List.set_cons_zero, List.set_cons_succ]))
        refine seq_done ?_
        go_wp2_with fail
        (try simp only [Exit.inBlock, Exit.then])
        rw [Exit.noGoto_ret]
        refine bodyPost_ret (v := .tuple #[.slice D k cc, .agg (cellsOf ck).toArray, .int .i64 0]) ?_ rfl (FIN.out _)
        exact results_trt rfl _ _ (w.heap.size + 1) 23 (cellsOf ck).toArray (0, 0) _ _ _ rfl rfl rfl (setRow_heap _ _ _ _ _ _ Rc.out) rfl rfl (by rw [S1]; rfl)
end Go.Proofs.YthdjojindijmnaaDoor
