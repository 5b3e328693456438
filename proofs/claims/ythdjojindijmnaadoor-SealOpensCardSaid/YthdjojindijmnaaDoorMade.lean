import Derived.Test.YthdjojindijmnaaDoorPkI
import Derived.Test.YthdjojindijmnaaDoorMac
import Derived.Test.YthdjojindijmnaaDoorPkL
import Derived.Test.YthdjojindijmnaaDoorSeqT
import Derived.Test.YthdjojindijmnaaDoorPkM
import Derived.Great.FillDense
/-
  commit.made.
-/
namespace Go.Proofs.YthdjojindijmnaaDoor
open Go.ChangeShapes Go.WideShapes Go.ChangeAt Go.RowKit Go.Deep

theorem fill_one {K Z : Array Value} (pl : Nat → Option (Nat × Nat)) (hp : pl 0 = some (0, 32)) (hK : K.size = 32) (hZ : Z.size = 32) : Instr.fill pl Z [(0, .agg K)] = some K := by
  have hc : (Value.agg K).cells = K := rfl
  simp only [Instr.fill, hp, hc, hK, hZ]
  simp only [ne_eq, not_true_eq_false, decide_false, Bool.false_or, Nat.zero_add, Nat.lt_irrefl, decide_false, Bool.false_eq_true, if_false]
  have := Great.fill_whole (s := 32) (by omega) [Value.agg K] Z (fun v hv => by
    simp only [List.mem_singleton] at hv
    subst hv
    exact hK) (by simp [hZ])
  simp only [List.zipIdx_cons, List.zipIdx_nil, List.map_cons, List.map_nil, List.flatMap_cons, List.flatMap_nil, List.append_nil, Instr.fill, hc, hK, hZ, Nat.zero_mul] at this
  simpa using this
theorem made_alloc (w : World) : (zeroValue 51).run Tryd.prog w = .ok (.agg zeros32) w := by kernel_rfl
theorem made_built {K : Array Value} (hK : K.size = 32) : Tryd.prog.built 51 [(0, .agg K)] = some K := by
  have h : ∃ pl : Nat → Option (Nat × Nat), pl 0 = some (0, 32) ∧ ∀ ps, Tryd.prog.built 51 ps = Instr.fill pl zeros32 ps := ⟨(#[(0, 32)][·]?), rfl, fun ps => by kernel_rfl⟩
  obtain ⟨pl, h0, h1⟩ := h
  rw [h1, fill_one pl h0 hK zeros32_size]

set_option maxRecDepth 100000 in
set_option maxHeartbeats 2000000 in
theorem made_calls {A : Option Addr} {n c : Nat} {l : List (List UInt8)} {ks : List UInt8} {w : World} (hk : ks.length = 32) (h : Rw w A n c l) (hm : (joinL l).length ≤ 100000000) {tg : TypeId × Nat × Nat} (hG : Gl w tg) :
    Calls Tryd.prog 30 #[.agg (cellsOf ks).toArray, .slice A n c] w fun e w' => e = .returned (.agg (cellsOf (macL ks (joinL l))).toArray) ∧ Ext w w' := by
  have JOIN : Hid (∀ (W : World), Ext w W → Calls Tryd.prog 40 #[.slice A n c] W (RetBs (joinL l) W)) := fun W e => join_calls (h.ext e) hm
  have MAC : Hid (∀ (W : World) (g : Nat) (A' : Option Addr) (m d : Nat), Ext w W → Ky W g ks → Bs W A' m d (joinL l) → Calls Tryd.prog 39 #[.slice (some ⟨g, 0, none⟩) 32 32, .slice A' m d] W fun e w' => e = .returned (.tuple #[.agg (cellsOf (macL ks (joinL l))).toArray, .int .i64 0]) ∧ Ext W w') := fun W g A' m d e k b => mac_calls k.bs b (by decide) (hG.kept e hG.lt)
  clear hG h
  have ML := macL_len ks (joinL l)
  generalize macL ks (joinL l) = D at *
  have DS : (cellsOf D).toArray.size = 32 := by simp [cellsOf_len, ML]
  have D1 := cellsOf_one D
  have hbd : Hid (Tryd.prog.built 51 [(0, .agg (cellsOf D).toArray)] = some (cellsOf D).toArray) := made_built DS
  have hal := key_alloc
  have hal2 := made_alloc
  have hz0 := zeros32_size
  generalize zeros32 = Z at *
  have B0 : Hid (∀ w', Ext ((w.alloc (Obj.cells (cellsOf ks).toArray 23)).alloc (Obj.cells Z 51)) w' → Ky w' w.heap.size ks ∧ w'.heap[w.heap.size + 1]? = some (.cells Z 51 (0, 0)) ∧ Ext w w') := fun w' e => ⟨⟨(e.block _ (by rw [size_alloc, size_alloc]; omega)).trans (heap_alloc1 _ _ _), hk⟩, (e.block _ (by rw [size_alloc, size_alloc]; omega)).trans (heap_alloc2 _ _ _), (((Ext.refl w).alloc _).alloc _).trans e⟩
  go_enter Tryd.func30, Tryd.ntmps30
  go_upto_region 1 with fail
  refine wp_gen (fun W => ∀ w', Ext W w' → Ky w' w.heap.size ks ∧ w'.heap[w.heap.size + 1]? = some (.cells Z 51 (0, 0)) ∧ Ext w w') B0.out ?_
  clear B0
  rintro w0 b0
  have z0 := heap_lt (b0 _ (Ext.refl _)).2.1
  have B0 := Lib.hid b0
  clear b0
  go_cut [5, 6] (fun s5 s6 wx => ∃ g : Nat, s5 = .pointer (some ⟨g, 0, none⟩) ∧ s6 = .int .i64 0 ∧ Below w0.heap.size w0 wx ∧ wx.heap[g]? = some (.cells (cellsOf D).toArray 23 (0, 0)) ∧ w0.heap.size ≤ g)
  case first =>
    refine wp_region_tree (R := Below w0.heap.size) (Below.refl _) (fun _ _ _ => Below.trans) (.rd 0 (.rd 1 (.alt 2 (.alt 3 (.rd 4 (.rd 5 (.rd 6 (.alt 7 (.alt 8 (.rd 9 .nil) .stop) .stop)))) (.alt 7 (.alt 3 (.rd 4 (.rd 5 (.rd 6 (.alt 8 (.rd 9 .nil) .stop)))) .stop) .stop)) (.alt 7 (.alt 2 (.alt 3 (.rd 4 (.rd 5 (.rd 6 (.alt 8 (.rd 9 .nil) .stop)))) .stop) .stop) .stop)))) [(0, 9, 8), (0, 10, 4), (2, 11, 1024), (5, 12, 2560), (8, 8, 4096), (16, 13, 256), (16, 14, 256), (0, 6, 0), (191, 0, 8256), (511, 7, 16384)] 10 (by kernel_rfl) (by kernel_rfl) (by kernel_rfl) rfl (by kernel_rfl) (by kernel_rfl) (fun _ _ d _ _ h => by cases d <;> exact h) ?_
    repeat (first | (refine seqT_read (fun _ => True) (fun _ _ => trivial) _ (v := ?_) rfl ?_ ?_ ?_; rotate_left; (· rfl); (· intro w' hF; go_simp; (try with_reducible rfl)); simp only [Act.put, List.setIfInBounds_toArray, List.set_cons_zero, List.set_cons_succ]) | (refine seqT_skip _ rfl ?_ ?_; (· rfl); simp only [Act.put, List.setIfInBounds_toArray, List.set_cons_zero, List.set_cons_succ]))
    have SE : Hid (Ext w0 w0.drew) := (Ext.refl w0).drew
    generalize w0.drew = WC at *
    repeat' (first
      | exact seqT_stop
      | (refine seqT_do (i := 2) _ rfl ?_ ?_ (fun K1 hK1 => ?_)
         (· rfl)
         rotate_left
         go_simp
         refine (JOIN.out _ (B0.out _ SE.out).2.2).mono ?_
         rintro e0 WC ⟨A2, n2, c2, rfl, b2, e⟩
         refine hK1.out _ _ (e.mono SE.out.size) ?_
         clear hK1 K1
         (try replace hL := Lib.hid ((e.block _ (heap_lt hL.out)).trans hL.out))
         replace SE := Lib.hid (SE.out.trans e)
         have hJ := Lib.hid b2
         clear e b2
         (try simp only [Act.put, List.setIfInBounds_toArray, List.set_cons_zero, List.set_cons_succ])
         repeat (first | (refine seqT_read (fun _ => True) (fun _ _ => trivial) _ (v := ?_) rfl ?_ ?_ ?_; rotate_left; (· rfl); (· intro w' hF; go_simp; (try with_reducible rfl)); simp only [Act.put, List.setIfInBounds_toArray, List.set_cons_zero, List.set_cons_succ]) | (refine seqT_skip _ rfl ?_ ?_; (· rfl); simp only [Act.put, List.setIfInBounds_toArray, List.set_cons_zero, List.set_cons_succ]))
         skip)
      | (refine seqT_do (i := 3) _ rfl ?_ ?_ (fun K1 hK1 => ?_)
         (· rfl)
         rotate_left
         go_simp
         refine (MAC.out _ _ _ _ _ (B0.out _ SE.out).2.2 (B0.out _ SE.out).1 hJ.out).mono ?_
         rintro e0 WC ⟨rfl, e⟩
         refine hK1.out _ _ (e.mono SE.out.size) ?_
         clear hK1 K1 hJ
         (try replace hL := Lib.hid ((e.block _ (heap_lt hL.out)).trans hL.out))
         replace SE := Lib.hid (SE.out.trans e)
         clear e
         (try simp only [Act.put, List.setIfInBounds_toArray, List.set_cons_zero, List.set_cons_succ])
         repeat (first | (refine seqT_read (fun _ => True) (fun _ _ => trivial) _ (v := ?_) rfl ?_ ?_ ?_; rotate_left; (· rfl); (· intro w' hF; go_simp; (try with_reducible rfl)); simp only [Act.put, List.setIfInBounds_toArray, List.set_cons_zero, List.set_cons_succ]) | (refine seqT_skip _ rfl ?_ ?_; (· rfl); simp only [Act.put, List.setIfInBounds_toArray, List.set_cons_zero, List.set_cons_succ]))
         skip)
      | (refine seqT_do (i := 7) _ rfl ?_ ?_ (fun K1 hK1 => ?_)
         (· rfl)
         rotate_left
         go_simp
         have e : Ext WC (WC.alloc (Obj.cells Z 23)) := (Ext.refl WC).alloc _
         obtain ⟨gL, hgL⟩ : ∃ g, g = WC.heap.size := ⟨_, rfl⟩
         have hL := Lib.hid (heap_alloc_new WC (Obj.cells Z 23))
         rw [← hgL] at hL ⊢
         have zl : w0.heap.size ≤ gL := by rw [hgL]; exact SE.out.size
         refine hK1.out _ _ (e.mono SE.out.size) ?_
         clear hK1 K1
         replace hgL := Lib.hid hgL
         (try replace hJ := Lib.hid (hJ.out.ext e))
         replace SE := Lib.hid (SE.out.trans e)
         clear e
         generalize WC.alloc (Obj.cells Z 23) = WC at *
         (try simp only [Act.put, List.setIfInBounds_toArray, List.set_cons_zero, List.set_cons_succ])
         repeat (first | (refine seqT_read (fun _ => True) (fun _ _ => trivial) _ (v := ?_) rfl ?_ ?_ ?_; rotate_left; (· rfl); (· intro w' hF; go_simp; (try with_reducible rfl)); simp only [Act.put, List.setIfInBounds_toArray, List.set_cons_zero, List.set_cons_succ]) | (refine seqT_skip _ rfl ?_ ?_; (· rfl); simp only [Act.put, List.setIfInBounds_toArray, List.set_cons_zero, List.set_cons_succ]))
         skip)
      | (refine seqT_do (i := 8) _ rfl ?_ ?_ (fun K1 hK1 => ?_)
         (· rfl)
         rotate_left
         refine wp_store_row _ _ _ rfl gL (cellsOf D).toArray rfl rfl 23 Z hL.out (by rw [DS]; rfl) (by rw [DS]; exact hz0) D1 ?_
         refine hK1.out _ _ (below_setRow (Below.refl _ _) zl _) ?_
         clear hK1 K1
         have S1 : Hid (Below w0.heap.size w0 (WC.setRow gL (cellsOf D).toArray)) := below_setRow SE.out zl _
         have kx : Hid ((WC.setRow gL (cellsOf D).toArray).heap[gL]? = some (.cells (cellsOf D).toArray 23 (0, 0))) := setRow_heap _ _ _ _ _ _ hL.out
         (try simp only [Act.put, List.setIfInBounds_toArray, List.set_cons_zero, List.set_cons_succ])
         repeat (first | (refine seqT_read (fun _ => True) (fun _ _ => trivial) _ (v := ?_) rfl ?_ ?_ ?_; rotate_left; (· rfl); (· intro w' hF; go_simp; (try with_reducible rfl)); simp only [Act.put, List.setIfInBounds_toArray, List.set_cons_zero, List.set_cons_succ]) | (refine seqT_skip _ rfl ?_ ?_; (· rfl); simp only [Act.put, List.setIfInBounds_toArray, List.set_cons_zero, List.set_cons_succ]))
         refine seqT_done ?_
         go_wp2_with fail
         go_meet
         exact ⟨gL, rfl, rfl, S1.out, kx.out, zl⟩)
      )
  case rest =>
    obtain ⟨g, rfl, rfl, E1, kr, hg⟩ := hcut
    have b1 := B0.out _ E1
    have r1 := Lib.hid b1.2.1
    have x1 := Lib.hid b1.2.2
    replace kr := Lib.hid kr
    clear b1 B0 JOIN MAC E1
    go_wp2_with (first
      | (refine wpList_load_row rfl 23 _ rfl g rfl 23 (cellsOf D).toArray (0, 0) _ kr.out rfl rfl (by rw [DS]; rfl) ?_; simp only [Act.put, List.setIfInBounds_toArray, List.set_cons_zero, List.set_cons_succ])
      | (refine wpList_build_as rfl _ _ rfl (cellsOf D).toArray (by simp only [List.map_toArray, List.map_cons, List.map_nil]; exact hbd.out) ?_; simp only [Act.put, List.setIfInBounds_toArray, List.set_cons_zero, List.set_cons_succ])
      | (refine wpList_store_row rfl 51 _ _ rfl (w.heap.size + 1) (cellsOf D).toArray rfl rfl 51 Z r1.out (by rw [DS]; rfl) (by rw [DS]; exact hz0) D1 ?_; simp only [Act.put, List.setIfInBounds_toArray, List.set_cons_zero, List.set_cons_succ]))
    (try simp only [Exit.inBlock, Exit.then])
    refine bodyPost_ret (results_cell_row rfl _ _ (w.heap.size + 1) 51 (cellsOf D).toArray (0, 0) _ rfl (setRow_heap _ _ _ _ _ _ r1.out) rfl rfl (by rw [DS]; rfl)) rfl ?_
    exact ⟨rfl, below_setRow x1.out (Nat.le_succ _) _⟩
end Go.Proofs.YthdjojindijmnaaDoor
