/-
  commit.Pack.
-/
import Derived.Test.YthdjojindijmnaaDoorKeyEq
import Derived.Test.YthdjojindijmnaaDoorOwn
namespace Go.Proofs.YthdjojindijmnaaDoor
open Go.ChangeShapes Go.WideShapes Go.ChangeAt Go.RowKit Go.Deep

set_option maxRecDepth 100000 in
set_option maxHeartbeats 1000000 in
theorem pack_calls {A : Option Addr} {n c : Nat} {ks bs : List UInt8} {w : World} (hk : ks.length = 32) (h : Bs w A n c bs) (hn : n ≤ 100000000) :
    Calls Tryd.prog 18 #[.agg (cellsOf ks).toArray, .slice A n c] w (RetBs (ks ++ bs) w) := by
  have KB : Hid (Bs (w.alloc (Obj.cells (cellsOf ks).toArray 23)) (some ⟨w.heap.size, 0, none⟩) 32 32 ks) := Ky.bs (Ky.boxed w hk)
  have HB := Lib.hid (h.ext ((Ext.refl w).alloc (Obj.cells (cellsOf ks).toArray 23)))
  have E0 : Hid (Ext w (w.alloc (Obj.cells (cellsOf ks).toArray 23))) := (Ext.refl w).alloc _
  have c1 := h.le
  have c2 := h.cap
  clear h
  go_enter Tryd.func18, Tryd.ntmps18
  go_upto_region 1 with fail
  refine wp_gen (fun W => Bs W (some ⟨w.heap.size, 0, none⟩) 32 32 ks ∧ Bs W A n c bs ∧ Ext w W) ⟨KB.out, HB.out, E0.out⟩ ?_
  clear KB HB E0
  rintro w0 ⟨kb, hb, e0⟩
  replace kb := Lib.hid kb
  replace hb := Lib.hid hb
  replace e0 := Lib.hid e0
  have o0 := Lib.hid (Own.nil w0.heap.size w0)
  go_wp2_with (first
    | (at_builtin; (with_reducible refine wpList_append_bs rfl (B := w0.heap.size) (s := .const (.slice none 0 0)) (x := .tmp 6) rfl rfl rfl o0.out kb.out (by omega) (Nat.le_refl _) ?_); intro A1 c1' w1 o1 g1 b1; replace o1 := Lib.hid o1; clear g1; replace b1 : Hid (Ext w0 w1) := b1; rw [show 0 + 32 = 32 from rfl] at *; simp only [Act.put, List.setIfInBounds_toArray, List.set_cons_zero, List.set_cons_succ])
    | (at_builtin; (with_reducible refine wpList_append_bs rfl (B := w0.heap.size) (s := .tmp 8) (x := .tmp 9) rfl rfl rfl o1.out (hb.out.ext b1.out) (by omega) b1.out.size ?_); intro A2 c2' w2 o2 g2 b2; replace o2 := Lib.hid o2; clear g2; replace b2 : Hid (Ext w0 w2) := Below.trans b1.out b2; simp only [Act.put, List.setIfInBounds_toArray, List.set_cons_zero, List.set_cons_succ]))
  go_ret
  exact ⟨_, _, _, rfl, o2.out.bs, e0.out.trans b2.out⟩
end Go.Proofs.YthdjojindijmnaaDoor
