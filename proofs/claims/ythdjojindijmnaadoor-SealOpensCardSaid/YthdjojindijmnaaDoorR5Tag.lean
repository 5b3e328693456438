import Derived.Test.YthdjojindijmnaaDoorPkG
import Derived.Test.YthdjojindijmnaaDoorRefTn
import Derived.Test.YthdjojindijmnaaDoorPkB
import Derived.Test.YthdjojindijmnaaDoorPkC
/-
  The document's turn and tag (layer 5).
-/
namespace Go.Proofs.YthdjojindijmnaaDoor
open Go.ChangeShapes Go.WideShapes Go.ChangeAt Go.RowKit Go.Deep
set_option maxRecDepth 100000

set_option maxHeartbeats 1000000 in
theorem r5turn_calls {A : Option Addr} {n c : Nat} {ks bs : List UInt8} {w : World} (hk : ks.length = 32) (h : Bs w A n c bs) (hn : n ≤ 1000000) :
    Calls Tryd.prog 36 #[.agg (cellsOf ks).toArray, .slice A n c] w (RetOwn (sealT ks bs) w) := by
  have KEY : Hid (∀ W, Calls Tryd.prog 46 #[.agg (cellsOf ks).toArray, .string (strL turnS)] W fun e w' => e = .returned (.agg (cellsOf (keyL ks turnS)).toArray) ∧ Ext W w') := fun W => refKey_calls hk (by decide)
  have TURN : Hid (∀ W, Ext w W → Calls Tryd.prog 45 #[.agg (cellsOf (keyL ks turnS)).toArray, .agg (cellsOf non0).toArray, .int .u32 0, .slice A n c] W (RetOwn (sealT ks bs) W)) := fun W e => refTurn4_own (n := 0) (keyL_len _ _) rfl (by omega) (h.ext e) hn
  have hA : Hid ((⟨#[116, 117, 114, 110]⟩ : ByteArray) = strL turnS) := rfl
  have hb := non0_built
  have KS : (cellsOf ks).toArray.size = 32 := by simp [cellsOf_len, hk]
  have k0 : Hid (Ky (w.alloc (Obj.cells (cellsOf ks).toArray 23)) w.heap.size ks) := Ky.boxed w hk
  have h1 := h.le
  have h2 := h.cap
  clear h
  generalize strL turnS = sA at *
  generalize keyL ks turnS = a at *
  generalize sealT ks bs = T at *
  generalize non0 = nn at *
  go_enter Tryd.func36, Tryd.ntmps36
  go_wp2_with (refine wpList_load_row rfl 23 _ rfl w.heap.size rfl 23 (cellsOf ks).toArray (0, 0) _ k0.out.1 rfl rfl (by rw [KS]; rfl) ?_; simp only [Act.put, List.setIfInBounds_toArray, List.set_cons_zero, List.set_cons_succ])
  rw [hA.out]
  refine (KEY.out _).mono ?_
  rintro e w1 ⟨rfl, e1⟩
  have x1 : Hid (Ext w w1) := ((Ext.refl w).alloc _).trans e1
  go_wp2_with (refine wpList_build_as rfl _ _ rfl (cellsOf nn).toArray (by simp only [List.map_toArray, List.map_nil]; exact hb) ?_; simp only [Act.put, List.setIfInBounds_toArray, List.set_cons_zero, List.set_cons_succ])
  refine (TURN.out _ x1.out).mono ?_
  rintro e w2 ⟨A1, n1, c1, rfl, o1, e2⟩
  go_wp2_with fail
  go_ret
  exact ⟨_, _, _, rfl, o1.lower x1.out.size, x1.out.trans e2⟩

set_option maxHeartbeats 4000000 in
theorem r5tag_calls {A B : Option Addr} {n c m d : Nat} {ks bs ts : List UInt8} {w : World} (hk : ks.length = 32) (h : Bs w A n c bs) (h' : Bs w B m d ts) (hn : n ≤ 100000) (hm : m ≤ 100000) :
    Calls Tryd.prog 37 #[.agg (cellsOf ks).toArray, .slice A n c, .slice B m d] w fun e w' => e = .returned (.agg (cellsOf (sealM ks bs ts)).toArray) ∧ Ext w w' := by
  have JL : (joinL [ks, bs, ts]).length ≤ 1000000 := by rw [join3_len, hk, h.len, h'.len]; omega
  have KEY : Hid (∀ W, Calls Tryd.prog 46 #[.agg (cellsOf ks).toArray, .string (strL tagS)] W fun e w' => e = .returned (.agg (cellsOf (keyL ks tagS)).toArray) ∧ Ext W w') := fun W => refKey_calls hk (by decide)
  have JOIN : Hid (∀ (W : World) (C : Option Addr), Rw W C 3 3 [ks, bs, ts] → Calls Tryd.prog 32 #[.slice C 3 3] W (RetBs (joinL [ks, bs, ts]) W)) := fun W C r => refJoin_calls r (by omega)
  have TAG : Hid (∀ (W : World) (A' : Option Addr) (m d : Nat), Bs W A' m d (joinL [ks, bs, ts]) → Calls Tryd.prog 31 #[.agg (cellsOf (keyL ks tagS)).toArray, .slice A' m d] W fun e w' => e = .returned (.agg (cellsOf (sealM ks bs ts)).toArray) ∧ Ext W w') := fun W A' m d b => refTag_calls (keyL_len _ _) b (by rw [← b.len]; exact JL)
  have hA : Hid ((⟨#[116, 97, 103]⟩ : ByteArray) = strL tagS) := rfl
  generalize strL tagS = sA at *
  have KL := keyL_len ks tagS
  generalize keyL ks tagS = t at *
  have ML := sealM_len ks bs ts
  generalize sealM ks bs ts = D at *
  clear JL
  have KS : (cellsOf ks).toArray.size = 32 := by simp [cellsOf_len, hk]
  have DS : (cellsOf D).toArray.size = 32 := by simp [cellsOf_len, ML]
  have D1 := cellsOf_one D
  have hal := key_alloc
  have hz0 := zeros32_size
  generalize zeros32 = Z at *
  have z1 := h.le
  have z2 := h.cap
  have z3 := h'.le
  have z4 := h'.cap
  have B0 : Hid (∀ w', Ext ((w.alloc (Obj.cells (cellsOf ks).toArray 23)).alloc (Obj.cells Z 23)) w' → Ky w' w.heap.size ks ∧ w'.heap[w.heap.size + 1]? = some (.cells Z 23 (0, 0)) ∧ Ext w w' ∧ Bs w' A n c bs ∧ Bs w' B m d ts) := fun w' e => by
    have x : Ext w w' := (((Ext.refl w).alloc _).alloc _).trans e
    exact ⟨⟨(e.block _ (by rw [size_alloc, size_alloc]; omega)).trans (heap_alloc1 _ _ _), hk⟩, (e.block _ (by rw [size_alloc, size_alloc]; omega)).trans (heap_alloc2 _ _ _), x, h.ext x, h'.ext x⟩
  clear h h'
  go_enter Tryd.func37, Tryd.ntmps37
  go_upto_region 1 with fail
  refine wp_gen (fun W => ∀ w', Ext W w' → Ky w' w.heap.size ks ∧ w'.heap[w.heap.size + 1]? = some (.cells Z 23 (0, 0)) ∧ Ext w w' ∧ Bs w' A n c bs ∧ Bs w' B m d ts) B0.out ?_
  clear B0
  rintro w0 b0
  have zw := heap_lt (b0 _ (Ext.refl _)).2.1
  have B0 := Lib.hid b0
  clear b0
  rw [hA.out]
  refine wp_region_tree (R := Below (w.heap.size+1)) (Below.refl _) (fun _ _ _ => Below.trans) (.rd 0 (.rd 2 (.rd 3 (.rd 4 (.alt 1 (.alt 5 (.alt 6 (.alt 7 (.alt 8 .nil .stop) .stop) .stop) .stop) (.alt 5 (.alt 1 (.alt 6 (.alt 7 (.alt 8 .nil .stop) .stop) .stop) .stop) .stop)))))) [(0, 8, 16), (1, 9, 256), (0, 10, 16), (0, 11, 4), (0, 12, 8), (28, 13, 7168), (34, 14, 8192), (66, 15, 16896), (255, 0, 32896)] 9 (by kernel_rfl) (by kernel_rfl) (by kernel_rfl) rfl (by kernel_rfl) (by kernel_rfl) (fun _ _ d _ _ h => by cases d <;> exact h) ?_
  refine seqT_read (fun w' => w'.heap[w.heap.size]? = some (.cells (cellsOf ks).toArray 23 (0, 0))) (fun w' e => (show w'.heap[w.heap.size]? = some (.cells (cellsOf ks).toArray 23 (0, 0)) from (Below.block ((Ext.refl w0).drew.mono (Nat.le_of_lt zw) |>.trans e) w.heap.size (by omega)).trans (B0.out _ (Ext.refl _)).1.1)) _ (v := .agg (cellsOf ks).toArray) rfl (by rfl) (fun w' hF => exec_load_row rfl rfl hF rfl rfl (by rw [KS]; rfl)) ?_
  simp only [Act.put, List.setIfInBounds_toArray, List.set_cons_zero, List.set_cons_succ]
  repeat (first | (refine seqT_read (fun _ => True) (fun _ _ => trivial) _ (v := ?_) rfl ?_ ?_ ?_; rotate_left; (· rfl); (· intro w' hF; go_simp; (try with_reducible rfl)); simp only [Act.put, List.setIfInBounds_toArray, List.set_cons_zero, List.set_cons_succ]) | (refine seqT_skip _ rfl ?_ ?_; (· rfl); simp only [Act.put, List.setIfInBounds_toArray, List.set_cons_zero, List.set_cons_succ]))
  have SE : Hid (Ext w0 w0.drew) := (Ext.refl w0).drew
  generalize w0.drew = WC at *
  repeat' (first
      | exact seqT_stop
      | (refine seqT_do (i := 1) _ rfl ?_ ?_ (fun K1 hK1 => ?_)
         (· rfl)
         rotate_left
         go_simp
         refine (KEY.out _).mono ?_
         rintro e0 WC ⟨rfl, e⟩
         refine hK1.out _ _ (e.mono (Nat.le_trans (Nat.le_of_lt zw) SE.out.size)) ?_
         clear hK1 K1
         (try replace hR := Lib.hid (hR.out.ext e))
         replace SE := Lib.hid (SE.out.trans e)
         clear e
         (try simp only [Act.put, List.setIfInBounds_toArray, List.set_cons_zero, List.set_cons_succ])
         repeat (first | (refine seqT_read (fun _ => True) (fun _ _ => trivial) _ (v := ?_) rfl ?_ ?_ ?_; rotate_left; (· rfl); (· intro w' hF; go_simp; (try with_reducible rfl)); simp only [Act.put, List.setIfInBounds_toArray, List.set_cons_zero, List.set_cons_succ]) | (refine seqT_skip _ rfl ?_ ?_; (· rfl); simp only [Act.put, List.setIfInBounds_toArray, List.set_cons_zero, List.set_cons_succ]))
         skip)
      | (refine seqT_do (i := 5) _ rfl ?_ ?_ (fun K1 hK1 => ?_)
         (· rfl)
         rotate_left
         go_simp
         have bb := B0.out _ SE.out
         have e : Ext WC (WC.alloc (Obj.cells #[.slice (some ⟨w.heap.size, 0, none⟩) 32 32, .slice A n c, .slice B m d] 34)) := (Ext.refl WC).alloc _
         have hR := Lib.hid (rw_lit3 (t := 34) bb.1.bs bb.2.2.2.1 bb.2.2.2.2)
         clear bb
         generalize hgR : WC.heap.size = gR at hR ⊢
         refine hK1.out _ _ (e.mono (Nat.le_trans (Nat.le_of_lt zw) SE.out.size)) ?_
         clear hK1 K1 hgR
         replace SE := Lib.hid (SE.out.trans e)
         clear e
         generalize WC.alloc (Obj.cells #[.slice (some ⟨w.heap.size, 0, none⟩) 32 32, .slice A n c, .slice B m d] 34) = WC at *
         (try simp only [Act.put, List.setIfInBounds_toArray, List.set_cons_zero, List.set_cons_succ])
         repeat (first | (refine seqT_read (fun _ => True) (fun _ _ => trivial) _ (v := ?_) rfl ?_ ?_ ?_; rotate_left; (· rfl); (· intro w' hF; go_simp; (try with_reducible rfl)); simp only [Act.put, List.setIfInBounds_toArray, List.set_cons_zero, List.set_cons_succ]) | (refine seqT_skip _ rfl ?_ ?_; (· rfl); simp only [Act.put, List.setIfInBounds_toArray, List.set_cons_zero, List.set_cons_succ]))
         skip)
      | (refine seqT_do (i := 6) _ rfl ?_ ?_ (fun K1 hK1 => ?_)
         (· rfl)
         rotate_left
         go_simp
         refine (JOIN.out _ _ hR.out).mono ?_
         rintro e0 WC ⟨A2, n2, c2, rfl, b2, e⟩
         refine hK1.out _ _ (e.mono (Nat.le_trans (Nat.le_of_lt zw) SE.out.size)) ?_
         clear hK1 K1 hR
         replace SE := Lib.hid (SE.out.trans e)
         have hJ := Lib.hid b2
         clear e b2
         (try simp only [Act.put, List.setIfInBounds_toArray, List.set_cons_zero, List.set_cons_succ])
         repeat (first | (refine seqT_read (fun _ => True) (fun _ _ => trivial) _ (v := ?_) rfl ?_ ?_ ?_; rotate_left; (· rfl); (· intro w' hF; go_simp; (try with_reducible rfl)); simp only [Act.put, List.setIfInBounds_toArray, List.set_cons_zero, List.set_cons_succ]) | (refine seqT_skip _ rfl ?_ ?_; (· rfl); simp only [Act.put, List.setIfInBounds_toArray, List.set_cons_zero, List.set_cons_succ]))
         skip)
      | (refine seqT_do (i := 7) _ rfl ?_ ?_ (fun K1 hK1 => ?_)
         (· rfl)
         rotate_left
         go_simp
         refine (TAG.out _ _ _ _ hJ.out).mono ?_
         rintro e0 WC ⟨rfl, e⟩
         refine hK1.out _ _ (e.mono (Nat.le_trans (Nat.le_of_lt zw) SE.out.size)) ?_
         clear hK1 K1 hJ
         replace SE := Lib.hid (SE.out.trans e)
         clear e
         have r1 := Lib.hid (B0.out _ SE.out).2.1
         have x1 := Lib.hid (B0.out _ SE.out).2.2.1
         (try simp only [Act.put, List.setIfInBounds_toArray, List.set_cons_zero, List.set_cons_succ])
         repeat (first | (refine seqT_read (fun _ => True) (fun _ _ => trivial) _ (v := ?_) rfl ?_ ?_ ?_; rotate_left; (· rfl); (· intro w' hF; go_simp; (try with_reducible rfl)); simp only [Act.put, List.setIfInBounds_toArray, List.set_cons_zero, List.set_cons_succ]) | (refine seqT_skip _ rfl ?_ ?_; (· rfl); simp only [Act.put, List.setIfInBounds_toArray, List.set_cons_zero, List.set_cons_succ]))
         skip)
      | (refine seqT_do (i := 8) _ rfl ?_ ?_ (fun K1 hK1 => ?_)
         (· rfl)
         rotate_left
         refine wp_store_row _ _ _ rfl (w.heap.size + 1) (cellsOf D).toArray rfl rfl 23 Z r1.out (by rw [DS]; rfl) (by rw [DS]; exact hz0) D1 ?_
         refine hK1.out _ _ (below_setRow (Below.refl _ _) (Nat.le_refl _) _) ?_
         clear hK1 K1
         (try simp only [Act.put, List.setIfInBounds_toArray, List.set_cons_zero, List.set_cons_succ])
         refine seqT_done ?_
         go_wp2_with fail
         (try simp only [Exit.inBlock, Exit.then])
         refine bodyPost_ret (results_cell_row rfl _ _ (w.heap.size + 1) 23 (cellsOf D).toArray (0, 0) _ rfl (setRow_heap _ _ _ _ _ _ r1.out) rfl rfl (by rw [DS]; rfl)) rfl ?_
         exact ⟨rfl, below_setRow x1.out (Nat.le_succ _) _⟩))
end Go.Proofs.YthdjojindijmnaaDoor
