import Derived.Test.YthdjojindijmnaaDoorPkI
import Derived.Test.YthdjojindijmnaaDoorMade
/-
  (seal.sealer).tagOf.
-/
namespace Go.Proofs.YthdjojindijmnaaDoor
open Go.ChangeShapes Go.WideShapes Go.ChangeAt Go.RowKit Go.Deep
set_option maxRecDepth 100000

theorem tag_alloc (w : World) : (zeroValue 62).run Tryd.prog w = .ok (.agg zeros32) w := by kernel_rfl
theorem tag_built {K : Array Value} (hK : K.size = 32) : Tryd.prog.built 62 [(0, .agg K)] = some K := by
  have h : ∃ pl : Nat → Option (Nat × Nat), pl 0 = some (0, 32) ∧ ∀ ps, Tryd.prog.built 62 ps = Instr.fill pl zeros32 ps := ⟨(#[(0, 32)][·]?), rfl, fun ps => by kernel_rfl⟩
  obtain ⟨pl, h0, h1⟩ := h
  rw [h1, fill_one pl h0 hK zeros32_size]
theorem rw_lit3 {W : World} {t : TypeId} {A B C : Option Addr} {n m l c d f : Nat} {xs ys zs : List UInt8} (h1 : Bs W A n c xs) (h2 : Bs W B m d ys) (h3 : Bs W C l f zs) : Rw (W.alloc (.cells #[.slice A n c, .slice B m d, .slice C l f] t)) (some ⟨W.heap.size, 0, none⟩) 3 3 [xs, ys, zs] := by
  have e : Ext W (W.alloc (.cells #[.slice A n c, .slice B m d, .slice C l f] t)) := (Ext.refl W).alloc _
  refine ⟨rfl, Nat.le_refl _, by unfold maxLen; omega, fun _ => ⟨_, 0, rfl, by rw [size_alloc]; omega, fun j hj => ?_⟩⟩
  rw [cell_of_row _ _ _ _ _ (0, 0) (heap_alloc_new _ _)]
  match j with
  | 0 => exact ⟨A, n, c, rfl, h1.ext e⟩
  | 1 => exact ⟨B, m, d, rfl, h2.ext e⟩
  | 2 => exact ⟨C, l, f, rfl, h3.ext e⟩
  | j + 3 => omega
theorem join3_len (xs ys zs : List UInt8) : (joinL [xs, ys, zs]).length = 12 + xs.length + ys.length + zs.length := by
  simp [joinL, row4_len]; omega

set_option maxHeartbeats 4000000 in
theorem tagOf_calls {A B : Option Addr} {n c m d : Nat} {a t k S bs ts : List UInt8} {w : World} (ha : a.length = 32) (ht : t.length = 32) (hk : k.length = 32) (hS : S = a ++ t ++ k) (h : Bs w A n c bs) (h' : Bs w B m d ts) (hn : n ≤ 1000000) (hm : m ≤ 1000000) {tg : TypeId × Nat × Nat} (hG : Gl w tg) :
    Calls Tryd.prog 35 #[.agg (cellsOf S).toArray, .slice A n c, .slice B m d] w fun e w' => e = .returned (.agg (cellsOf (macL t (joinL [k, bs, ts]))).toArray) ∧ Ext w w' := by
  have JL : (joinL [k, bs, ts]).length ≤ 100000000 := by rw [join3_len, hk, h.len, h'.len]; omega
  have JOIN : Hid (∀ (W : World) (C : Option Addr), Rw W C 3 3 [k, bs, ts] → Calls Tryd.prog 40 #[.slice C 3 3] W (RetBs (joinL [k, bs, ts]) W)) := fun W C r => join_calls r JL
  have MAC : Hid (∀ (W : World) (C : Option Addr) (A' : Option Addr) (m d : Nat), Ext w W → Bs W C 32 32 t → Bs W A' m d (joinL [k, bs, ts]) → Calls Tryd.prog 39 #[.slice C 32 32, .slice A' m d] W fun e w' => e = .returned (.tuple #[.agg (cellsOf (macL t (joinL [k, bs, ts]))).toArray, .int .i64 0]) ∧ Ext W w') := fun W C A' m d e k b => mac_calls k b (by decide) (hG.kept e hG.lt)
  clear hG JL
  have ML := macL_len t (joinL [k, bs, ts])
  generalize macL t (joinL [k, bs, ts]) = D at *
  have DS : (cellsOf D).toArray.size = 32 := by simp [cellsOf_len, ML]
  have D1 := cellsOf_one D
  have hbd : Hid (Tryd.prog.built 62 [(0, .agg (cellsOf D).toArray)] = some (cellsOf D).toArray) := tag_built DS
  have hal := key_alloc
  have hal2 := tag_alloc
  have hz0 := zeros32_size
  generalize zeros32 = Z at *
  have z1 := h.le
  have z2 := h.cap
  have z3 := h'.le
  have z4 := h'.cap
  have B0 : Hid (∀ w', Ext ((w.alloc (Obj.cells (cellsOf S).toArray 58)).alloc (Obj.cells Z 62)) w' → Bs w' (some ⟨w.heap.size, 32, none⟩) 32 32 t ∧ Bs w' (some ⟨w.heap.size, 64, none⟩) 32 32 k ∧ w'.heap[w.heap.size + 1]? = some (.cells Z 62 (0, 0)) ∧ Ext w w' ∧ Bs w' A n c bs ∧ Bs w' B m d ts) := fun w' e => by
    have x : Ext w w' := (((Ext.refl w).alloc _).alloc _).trans e
    have y := (e.block _ (by rw [size_alloc, size_alloc]; omega)).trans (heap_alloc1 w (Obj.cells (cellsOf S).toArray 58) (Obj.cells Z 62))
    exact ⟨part_bs (p := a) (q := k) y hS ha ht (by omega), part_bs (p := a ++ t) (q := []) y (by rw [hS]; simp) (by rw [List.length_append]; omega) hk (by omega), (e.block _ (by rw [size_alloc, size_alloc]; omega)).trans (heap_alloc2 _ _ _), x, h.ext x, h'.ext x⟩
  clear h h' hS
  go_enter Tryd.func35, Tryd.ntmps35
  go_upto_region 1 with fail
  refine wp_gen (fun W => ∀ w', Ext W w' → Bs w' (some ⟨w.heap.size, 32, none⟩) 32 32 t ∧ Bs w' (some ⟨w.heap.size, 64, none⟩) 32 32 k ∧ w'.heap[w.heap.size + 1]? = some (.cells Z 62 (0, 0)) ∧ Ext w w' ∧ Bs w' A n c bs ∧ Bs w' B m d ts) B0.out ?_
  clear B0
  rintro w0 b0
  have z0 := heap_lt (b0 _ (Ext.refl _)).2.2.1
  have B0 := Lib.hid b0
  clear b0
  go_cut [7, 8] (fun s5 s6 wx => ∃ g : Nat, s5 = .pointer (some ⟨g, 0, none⟩) ∧ s6 = .int .i64 0 ∧ Below w0.heap.size w0 wx ∧ wx.heap[g]? = some (.cells (cellsOf D).toArray 23 (0, 0)) ∧ w0.heap.size ≤ g)
  case first =>
    refine wp_region_tree (R := Below w0.heap.size) (Below.refl _) (fun _ _ _ => Below.trans) (.rd 0 (.rd 1 (.rd 2 (.rd 3 (.rd 4 (.rd 5 (.rd 6 (.alt 7 (.alt 8 (.alt 9 (.rd 10 (.rd 11 (.rd 12 (.alt 13 (.alt 14 (.rd 15 .nil) .stop) .stop)))) (.alt 13 (.alt 9 (.rd 10 (.rd 11 (.rd 12 (.alt 14 (.rd 15 .nil) .stop)))) .stop) .stop)) (.alt 13 (.alt 8 (.alt 9 (.rd 10 (.rd 11 (.rd 12 (.alt 14 (.rd 15 .nil) .stop)))) .stop) .stop) .stop)) (.alt 13 (.alt 7 (.alt 8 (.alt 9 (.rd 10 (.rd 11 (.rd 12 (.alt 14 (.rd 15 .nil) .stop)))) .stop) .stop) .stop) .stop))))))))) [(0, 11, 16), (1, 12, 2048), (2, 13, 4096), (0, 14, 16), (8, 15, 16384), (0, 16, 4), (0, 17, 8), (112, 18, 229376), (128, 19, 262144), (260, 20, 532480), (512, 10, 1048576), (1024, 21, 1024), (1024, 22, 1024), (0, 8, 0), (12287, 0, 2097408), (32767, 9, 4194304)] 16 (by kernel_rfl) (by kernel_rfl) (by kernel_rfl) rfl (by kernel_rfl) (by kernel_rfl) (fun _ _ d _ _ h => by cases d <;> exact h) ?_
    repeat (first | (refine seqT_read (fun _ => True) (fun _ _ => trivial) _ (v := ?_) rfl ?_ ?_ ?_; rotate_left; (· rfl); (· intro w' hF; go_simp; (try with_reducible rfl)); simp only [Act.put, List.setIfInBounds_toArray, List.set_cons_zero, List.set_cons_succ]) | (refine seqT_skip _ rfl ?_ ?_; (· rfl); simp only [Act.put, List.setIfInBounds_toArray, List.set_cons_zero, List.set_cons_succ]))
    have SE : Hid (Ext w0 w0.drew) := (Ext.refl w0).drew
    generalize w0.drew = WC at *
    repeat' (first
      | exact seqT_stop
      | (refine seqT_do (i := 7) _ rfl ?_ ?_ (fun K1 hK1 => ?_)
         (· rfl)
         rotate_left
         go_simp
         have bb := B0.out _ SE.out
         have e : Ext WC (WC.alloc (Obj.cells #[.slice (some ⟨w.heap.size, 64, none⟩) 32 32, .slice A n c, .slice B m d] 34)) := (Ext.refl WC).alloc _
         have hR := Lib.hid (rw_lit3 (t := 34) bb.2.1 bb.2.2.2.2.1 bb.2.2.2.2.2)
         clear bb
         obtain ⟨gR, hgR⟩ : ∃ g, g = WC.heap.size := ⟨_, rfl⟩
         rw [← hgR] at hR ⊢
         refine hK1.out _ _ (e.mono SE.out.size) ?_
         clear hK1 K1 hgR
         (try replace hL := Lib.hid ((e.block _ (heap_lt hL.out)).trans hL.out))
         replace SE := Lib.hid (SE.out.trans e)
         clear e
         generalize WC.alloc (Obj.cells #[.slice (some ⟨w.heap.size, 64, none⟩) 32 32, .slice A n c, .slice B m d] 34) = WC at *
         (try simp only [Act.put, List.setIfInBounds_toArray, List.set_cons_zero, List.set_cons_succ])
         repeat (first | (refine seqT_read (fun _ => True) (fun _ _ => trivial) _ (v := ?_) rfl ?_ ?_ ?_; rotate_left; (· rfl); (· intro w' hF; go_simp; (try with_reducible rfl)); simp only [Act.put, List.setIfInBounds_toArray, List.set_cons_zero, List.set_cons_succ]) | (refine seqT_skip _ rfl ?_ ?_; (· rfl); simp only [Act.put, List.setIfInBounds_toArray, List.set_cons_zero, List.set_cons_succ]))
         skip)
      | (refine seqT_do (i := 8) _ rfl ?_ ?_ (fun K1 hK1 => ?_)
         (· rfl)
         rotate_left
         go_simp
         refine (JOIN.out _ _ hR.out).mono ?_
         rintro e0 WC ⟨A2, n2, c2, rfl, b2, e⟩
         refine hK1.out _ _ (e.mono SE.out.size) ?_
         clear hK1 K1 hR
         (try replace hL := Lib.hid ((e.block _ (heap_lt hL.out)).trans hL.out))
         replace SE := Lib.hid (SE.out.trans e)
         have hJ := Lib.hid b2
         clear e b2
         (try simp only [Act.put, List.setIfInBounds_toArray, List.set_cons_zero, List.set_cons_succ])
         repeat (first | (refine seqT_read (fun _ => True) (fun _ _ => trivial) _ (v := ?_) rfl ?_ ?_ ?_; rotate_left; (· rfl); (· intro w' hF; go_simp; (try with_reducible rfl)); simp only [Act.put, List.setIfInBounds_toArray, List.set_cons_zero, List.set_cons_succ]) | (refine seqT_skip _ rfl ?_ ?_; (· rfl); simp only [Act.put, List.setIfInBounds_toArray, List.set_cons_zero, List.set_cons_succ]))
         skip)
      | (refine seqT_do (i := 9) _ rfl ?_ ?_ (fun K1 hK1 => ?_)
         (· rfl)
         rotate_left
         go_simp
         refine (MAC.out _ _ _ _ _ (B0.out _ SE.out).2.2.2.1 (B0.out _ SE.out).1 hJ.out).mono ?_
         rintro e0 WC ⟨rfl, e⟩
         refine hK1.out _ _ (e.mono SE.out.size) ?_
         clear hK1 K1 hJ
         (try replace hL := Lib.hid ((e.block _ (heap_lt hL.out)).trans hL.out))
         replace SE := Lib.hid (SE.out.trans e)
         clear e
         (try simp only [Act.put, List.setIfInBounds_toArray, List.set_cons_zero, List.set_cons_succ])
         repeat (first | (refine seqT_read (fun _ => True) (fun _ _ => trivial) _ (v := ?_) rfl ?_ ?_ ?_; rotate_left; (· rfl); (· intro w' hF; go_simp; (try with_reducible rfl)); simp only [Act.put, List.setIfInBounds_toArray, List.set_cons_zero, List.set_cons_succ]) | (refine seqT_skip _ rfl ?_ ?_; (· rfl); simp only [Act.put, List.setIfInBounds_toArray, List.set_cons_zero, List.set_cons_succ]))
         skip)
      | (refine seqT_do (i := 13) _ rfl ?_ ?_ (fun K1 hK1 => ?_)
         (· rfl)
         rotate_left
         go_simp
         have e : Ext WC (WC.alloc (Obj.cells Z 23)) := (Ext.refl WC).alloc _
         obtain ⟨gL, hgL⟩ : ∃ g, g = WC.heap.size := ⟨_, rfl⟩
         have hL := Lib.hid (heap_alloc_new WC (Obj.cells Z 23))
         rw [← hgL] at hL ⊢
         have zl : w0.heap.size ≤ gL := by rw [hgL]; exact SE.out.size
         refine hK1.out _ _ (e.mono SE.out.size) ?_
         clear hK1 K1
         replace hgL := Lib.hid hgL
         (try replace hJ := Lib.hid (hJ.out.ext e))
         (try replace hR := Lib.hid (hR.out.ext e))
         replace SE := Lib.hid (SE.out.trans e)
         clear e
         generalize WC.alloc (Obj.cells Z 23) = WC at *
         (try simp only [Act.put, List.setIfInBounds_toArray, List.set_cons_zero, List.set_cons_succ])
         repeat (first | (refine seqT_read (fun _ => True) (fun _ _ => trivial) _ (v := ?_) rfl ?_ ?_ ?_; rotate_left; (· rfl); (· intro w' hF; go_simp; (try with_reducible rfl)); simp only [Act.put, List.setIfInBounds_toArray, List.set_cons_zero, List.set_cons_succ]) | (refine seqT_skip _ rfl ?_ ?_; (· rfl); simp only [Act.put, List.setIfInBounds_toArray, List.set_cons_zero, List.set_cons_succ]))
         skip)
      | (refine seqT_do (i := 14) _ rfl ?_ ?_ (fun K1 hK1 => ?_)
         (· rfl)
         rotate_left
         refine wp_store_row _ _ _ rfl gL (cellsOf D).toArray rfl rfl 23 Z hL.out (by rw [DS]; rfl) (by rw [DS]; exact hz0) D1 ?_
         refine hK1.out _ _ (below_setRow (Below.refl _ _) zl _) ?_
         clear hK1 K1
         have S1 : Hid (Below w0.heap.size w0 (WC.setRow gL (cellsOf D).toArray)) := below_setRow SE.out zl _
         have kx : Hid ((WC.setRow gL (cellsOf D).toArray).heap[gL]? = some (.cells (cellsOf D).toArray 23 (0, 0))) := setRow_heap _ _ _ _ _ _ hL.out
         (try simp only [Act.put, List.setIfInBounds_toArray, List.set_cons_zero, List.set_cons_succ])
         repeat (first | (refine seqT_read (fun _ => True) (fun _ _ => trivial) _ (v := ?_) rfl ?_ ?_ ?_; rotate_left; (· rfl); (· intro w' hF; go_simp; (try with_reducible rfl)); simp only [Act.put, List.setIfInBounds_toArray, List.set_cons_zero, List.set_cons_succ]) | (refine seqT_skip _ rfl ?_ ?_; (· rfl); simp only [Act.put, List.setIfInBounds_toArray, List.set_cons_zero, List.set_cons_succ]))
         refine seqT_done ?_
         go_wp2_with fail
         go_meet
         exact ⟨gL, rfl, rfl, S1.out, kx.out, zl⟩)
      )
  case rest =>
    obtain ⟨g, rfl, rfl, E1, kr, hg⟩ := hcut
    have b1 := B0.out _ E1
    have r1 := Lib.hid b1.2.2.1
    have x1 := Lib.hid b1.2.2.2.1
    replace kr := Lib.hid kr
    clear b1 B0 JOIN MAC E1
    go_wp2_with (first
      | (refine wpList_load_row rfl 23 _ rfl g rfl 23 (cellsOf D).toArray (0, 0) _ kr.out rfl rfl (by rw [DS]; rfl) ?_; simp only [Act.put, List.setIfInBounds_toArray, List.set_cons_zero, List.set_cons_succ])
      | (refine wpList_build_as rfl _ _ rfl (cellsOf D).toArray (by simp only [List.map_toArray, List.map_cons, List.map_nil]; exact hbd.out) ?_; simp only [Act.put, List.setIfInBounds_toArray, List.set_cons_zero, List.set_cons_succ])
      | (refine wpList_store_row rfl 62 _ _ rfl (w.heap.size + 1) (cellsOf D).toArray rfl rfl 62 Z r1.out (by rw [DS]; rfl) (by rw [DS]; exact hz0) D1 ?_; simp only [Act.put, List.setIfInBounds_toArray, List.set_cons_zero, List.set_cons_succ]))
    (try simp only [Exit.inBlock, Exit.then])
    refine bodyPost_ret (results_cell_row rfl _ _ (w.heap.size + 1) 62 (cellsOf D).toArray (0, 0) _ rfl (setRow_heap _ _ _ _ _ _ r1.out) rfl rfl (by rw [DS]; rfl)) rfl ?_
    exact ⟨rfl, below_setRow x1.out (Nat.le_succ _) _⟩
end Go.Proofs.YthdjojindijmnaaDoor
