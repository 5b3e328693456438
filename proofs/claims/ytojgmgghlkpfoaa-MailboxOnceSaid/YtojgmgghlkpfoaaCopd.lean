/-
  mailbox.copied: an envelope with bytes of its own.
-/
import Derived.Test.YtojgmgghlkpfoaaMl
import Derived.Test.YtojgmgghlkpfoaaCopyK
import Derived.Test.YtojgmgghlkpfoaaTwo
namespace Go.Proofs.Ytojgmgghlkpfoaa
open Go.ChangeShapes Go.WideShapes Go.ChangeAt Go.RowKit Go.Deep
set_option maxRecDepth 100000

def zWm : Wm := ⟨⟨0, 0, 0, List.replicate 32 0, List.replicate 32 0, 0, 0, [], 0, 0, 0, 0, List.replicate 32 0, List.replicate 32 0⟩, none, 0⟩
def zM : List Value := zWm.C
theorem zM_len : zM.length = 138 := by kernel_rfl
theorem mail_alloc (w : World) : (zeroValue 64).run Try.prog w = .ok (.agg zM.toArray) w := by kernel_rfl
theorem splice_all {α : Type} {x y : List α} (h : x.length = y.length) : splice x 0 y = y := by
  unfold splice
  rw [List.take_zero, List.nil_append, Nat.zero_add, ← h, List.drop_length, List.append_nil]
theorem bsF_cells {w : World} {g n : Nat} {xs : List UInt8} {B : Nat} (h : w.heap[g]? = some (.cells (cellsOf xs).toArray 5 (0, 0))) (hl : xs.length = n) (hn : n ≤ 1000000) (hB : B ≤ g) : BsF B w (some ⟨g, 0, none⟩) n n xs :=
  ⟨⟨hl, Nat.le_refl _, by unfold maxLen; omega, fun _ => ⟨g, 0, rfl, heap_lt h, fun j hj => by
    rw [cell_of_row w g _ _ _ _ h, List.getElem?_toArray, Nat.zero_add, cellsOf_get (by omega)]⟩⟩, fun _ q hq => by cases hq; exact ⟨hB, _, h⟩⟩
set_option maxHeartbeats 4000000 in
theorem copied_calls {w : World} {x : Wm} (hx : x.d.ok) (hb : Bs w x.A x.d.body.length x.c x.d.body) :
    Calls Try.prog 48 #[.agg x.C.toArray] w fun e w' => ∃ A c, e = .returned (.agg (⟨x.d, A, c⟩ : Wm).C.toArray) ∧ BsF w.heap.size w' A x.d.body.length c x.d.body ∧ Ext w w' := by
  have hal := mail_alloc
  have L_z := zM_len
  have L_C := x.C_len hx
  have O_C : Hid (∀ A c, ∀ v ∈ (⟨x.d, A, c⟩ : Wm).C, v.oneCell' = true) := fun A c => Wm.one _
  have G69 : Hid (x.C[69]? = some (.slice x.A x.d.body.length x.c)) := Wm.c69 hx
  have S69 : Hid (∀ A c, x.C.set 69 (.slice A x.d.body.length c) = (⟨x.d, A, c⟩ : Wm).C) := fun A c => Wm.set69 hx A c
  have L_D : Hid (∀ A c, (⟨x.d, A, c⟩ : Wm).C.length = 138) := fun A c => Wm.C_len (x := ⟨x.d, A, c⟩) hx
  have hn : x.d.body.length ≤ 1000 := hx.2.2
  generalize x.C = CX at *
  generalize hF : (fun (A : Option Addr) (c : Nat) => (⟨x.d, A, c⟩ : Wm).C) = F at *
  have hF' : ∀ A c, (⟨x.d, A, c⟩ : Wm).C = F A c := fun A c => by rw [← hF]
  simp only [hF'] at O_C S69 L_D ⊢
  clear hF hF' hx
  have hmk := make8 x.d.body.length (by omega)
  have q1 := hb.le
  have q2 := hb.cap
  replace hb := Lib.hid hb
  generalize hn' : x.d.body.length = n at *
  generalize x.d.body = body at *
  replace hn' := Lib.hid hn'.symm
  generalize x.A = A at *
  generalize x.c = c at *
  clear x
  generalize zM = Z at *
  obtain ⟨r, hr⟩ : ∃ r, r = w.heap.size := ⟨_, rfl⟩
  have B0 : Hid (Cb ((w.alloc (Obj.cells CX.toArray 64)).alloc (Obj.cells Z.toArray 64)) r 64 CX ∧ Cb ((w.alloc (Obj.cells CX.toArray 64)).alloc (Obj.cells Z.toArray 64)) (r + 1) 64 Z ∧ Ext w ((w.alloc (Obj.cells CX.toArray 64)).alloc (Obj.cells Z.toArray 64))) := by
    rw [hr]; exact ⟨heap_alloc1 _ _ _, heap_alloc2 _ _ _, ((Ext.refl w).alloc _).alloc _⟩
  go_enter Try.func48, Try.ntmps48
  go_upto_region 1 with fail
  refine wp_gen (fun W => Cb W r 64 CX ∧ Cb W (r + 1) 64 Z ∧ Ext w W) B0.out ?_
  rw [← hr]
  have wr : w.heap.size ≤ r := Nat.le_of_eq hr.symm
  clear B0
  replace hr := Lib.hid hr
  rintro w0 ⟨k0, k1, x0⟩
  have b0 := k0.cell G69.out
  have B1 : Hid (Cb (w0.alloc (.cells (madeCells #[.int .u8 0] n) 5)) r 64 CX ∧ Cb (w0.alloc (.cells (madeCells #[.int .u8 0] n) 5)) (r + 1) 64 Z ∧ Cb (w0.alloc (.cells (madeCells #[.int .u8 0] n) 5)) w0.heap.size 5 (madeCells #[.int .u8 0] n).toList ∧ Ext w (w0.alloc (.cells (madeCells #[.int .u8 0] n) 5))) :=
    ⟨k0.ext ((Ext.refl w0).alloc _), k1.ext ((Ext.refl w0).alloc _), by unfold Cb; rw [Array.toArray_toList]; exact heap_alloc_new _ _, x0.alloc _⟩
  have rs : r + 1 < w0.heap.size := k1.lt
  clear k0 k1 x0
  go_upto_region 2 with fail
  refine wp_gen (fun W => Cb W r 64 CX ∧ Cb W (r + 1) 64 Z ∧ Cb W w0.heap.size 5 (madeCells #[.int .u8 0] n).toList ∧ Ext w W) B1.out ?_
  generalize w0.heap.size = s at *
  clear b0 B1 w0
  have L_m : (madeCells #[.int .u8 0] n).toList.length = n := by simp [madeCells]
  generalize (madeCells #[.int .u8 0] n).toList = M at *
  rintro w1 ⟨k0, k1, k2, x1⟩
  have b0 := k0.cell G69.out
  replace k0 := Lib.hid k0
  replace k1 := Lib.hid k1
  replace k2 := Lib.hid k2
  replace x1 := Lib.hid x1
  go_wp2_with fail
  refine upon_copy (cur := M) rfl k2.out (hb.out.ext x1.out) (Nat.le_refl _) (by omega) ?_
  intro w2 h1 h2
  rw [splice_all (by rw [cellsOf_len, L_m]; exact hn'.out)] at h1
  have K2 : Hid (Cb w2 r 64 CX ∧ Cb w2 (r + 1) 64 Z ∧ Cb w2 s 5 (cellsOf body) ∧ Ext w w2) := ⟨((h2.out s (Nat.le_refl _)).block _ (by omega)).trans k0.out, ((h2.out s (Nat.le_refl _)).block _ (by omega)).trans k1.out, h1.out, Below.trans x1.out (h2.out _ (by omega))⟩
  clear k0 k1 k2 x1 h1 h2 b0
  obtain ⟨k0, k1, k2, x2⟩ := K2.out
  clear K2
  have b0 := k0.cell G69.out
  have f0 := k0.frozen 69
  have K3 : Hid (Cb (w2.setCell ⟨r, 69, none⟩ (.slice (some ⟨s, 0, none⟩) n n)) r 64 (F (some ⟨s, 0, none⟩) n) ∧ Cb (w2.setCell ⟨r, 69, none⟩ (.slice (some ⟨s, 0, none⟩) n n)) (r + 1) 64 Z ∧ Cb (w2.setCell ⟨r, 69, none⟩ (.slice (some ⟨s, 0, none⟩) n n)) s 5 (cellsOf body) ∧ Ext w (w2.setCell ⟨r, 69, none⟩ (.slice (some ⟨s, 0, none⟩) n n))) := by
    refine ⟨?_, (Below.heap_setCell _ _ _ _ (show r + 1 ≠ r by omega)).trans k1, (Below.heap_setCell _ _ _ _ (show s ≠ r by omega)).trans k2, x2.setCell wr _⟩
    rw [← S69.out]
    exact k0.setCell
  clear k0 k1 k2 x2
  go_upto_region 4 with fail
  refine wp_gen (fun W => Cb W r 64 (F (some ⟨s, 0, none⟩) n) ∧ Cb W (r + 1) 64 Z ∧ Cb W s 5 (cellsOf body) ∧ Ext w W) K3.out ?_
  clear K3 b0 f0 w2
  rintro w3 ⟨k0, k1, k2, x3⟩
  have L_E := L_D.out (some ⟨s, 0, none⟩) n
  have O_E := one_cells (O_C.out (some ⟨s, 0, none⟩) n)
  have fin : Hid (BsF w.heap.size (w3.setRow (r + 1) (F (some ⟨s, 0, none⟩) n).toArray) (some ⟨s, 0, none⟩) n n body ∧ Ext w (w3.setRow (r + 1) (F (some ⟨s, 0, none⟩) n).toArray)) := ⟨bsF_cells (k2.row (by omega)) hn'.out.symm (by omega) (by omega), below_setRow x3 (by omega) _⟩
  have fin0 : Hid (∀ E, E = F (some ⟨s, 0, none⟩) n → ∃ A c, Ending.returned (.agg E.toArray) = .returned (.agg (F A c).toArray) ∧ BsF w.heap.size (w3.setRow (r + 1) E.toArray) A n c body ∧ Ext w (w3.setRow (r + 1) E.toArray)) := fun E q => by subst q; exact ⟨_, _, rfl, fin.out.1, fin.out.2⟩
  clear fin x3 k2 O_C L_D S69 G69
  generalize F (some ⟨s, 0, none⟩) n = E at *
  replace fin0 := Lib.hid (fin0.out E rfl)
  replace k0 := Lib.hid k0
  replace k1 := Lib.hid k1
  have S_E : E.toArray.size = 138 := by rw [List.size_toArray]; exact L_E
  have S_Z : Z.toArray.size = 138 := by rw [List.size_toArray]; exact L_z
  go_wp2_with (first
    | (refine wpList_load_row rfl 64 _ rfl r rfl 64 E.toArray (0, 0) _ k0.out rfl rfl (by rw [S_E]; rfl) ?_; simp only [Act.put, List.setIfInBounds_toArray, List.set_cons_zero, List.set_cons_succ])
    | (refine wpList_store_row rfl 64 _ _ rfl (r + 1) E.toArray rfl rfl 64 Z.toArray k1.out (by rw [S_E]; rfl) (by rw [S_E, S_Z]) O_E ?_; simp only [Act.put]))
  (try simp only [Exit.inBlock, Exit.then])
  refine bodyPost_ret (results_cell_row rfl _ _ (r + 1) 64 E.toArray (0, 0) _ rfl (setRow_heap _ _ _ _ _ _ k1.out) rfl rfl (by rw [S_E]; rfl)) rfl ?_
  exact fin0.out
end Go.Proofs.Ytojgmgghlkpfoaa
