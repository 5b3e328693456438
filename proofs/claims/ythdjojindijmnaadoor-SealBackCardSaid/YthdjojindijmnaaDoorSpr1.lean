/-
  The closure of kdf.Spread: one block more.
-/
import Derived.Test.YthdjojindijmnaaDoorDraw
import Derived.Test.YthdjojindijmnaaDoorAppStr
import Derived.Test.YthdjojindijmnaaDoorKdfL
namespace Go.Proofs.YthdjojindijmnaaDoor
open Go.ChangeShapes Go.WideShapes Go.ChangeAt Go.RowKit Go.Deep

/-- The worlds of Spread: the key, the purpose, what was told, the last block. -/
def Sp (w wr : World) (ks ps : List UInt8) (O : Option Addr) (on oc : Nat) (os : List UInt8) (L : Option Addr) (ln lc : Nat) (ls : List UInt8) : Prop :=
  Ext w wr ∧ wr.heap[w.heap.size]? = some (.cells (cellsOf ks).toArray 23 (0, 0)) ∧ wr.heap[w.heap.size + 1]? = some (.cells #[.string (strL ps)] 9 (0, 0)) ∧
  wr.heap[w.heap.size + 1 + 1]? = some (.cells #[.slice O on oc] 34 (0, 0)) ∧ wr.heap[w.heap.size + 1 + 1 + 1]? = some (.cells #[.slice L ln lc] 34 (0, 0)) ∧ Own (w.heap.size + 1 + 1 + 1 + 1) wr O on oc os ∧ Bs wr L ln lc ls
theorem Sp.size {w wr : World} {ks ps os ls : List UInt8} {O L : Option Addr} {on oc ln lc : Nat} (h : Sp w wr ks ps O on oc os L ln lc ls) : w.heap.size + 1 + 1 + 1 < wr.heap.size := heap_lt h.2.2.2.2.1
theorem Sp.ext {w wr wr' : World} {ks ps os ls : List UInt8} {O L : Option Addr} {on oc ln lc : Nat} (h : Sp w wr ks ps O on oc os L ln lc ls) (e : Ext wr wr') : Sp w wr' ks ps O on oc os L ln lc ls := by
  obtain ⟨a, b, c, d, f, g, i⟩ := h
  exact ⟨a.trans e, (e.block _ (heap_lt b)).trans b, (e.block _ (heap_lt c)).trans c, (e.block _ (heap_lt d)).trans d, (e.block _ (heap_lt f)).trans f, g.ext e, i.ext e⟩
/-- The closure's end. -/
def SpTo (w : World) (ks ps os ls : List UInt8) (e : Ending) (w' : World) : Prop :=
  e = .returned (.tuple #[]) ∧ ∃ O n c L lc, Sp w w' ks ps O n c os L 32 lc ls

set_option maxRecDepth 100000 in
set_option maxHeartbeats 2000000 in
theorem spr1_calls {w wr : World} {ks ps os ls : List UInt8} {O L : Option Addr} {on oc ln lc : Nat} {x : UInt8} (hk : ks.length = 32) (h : Sp w wr ks ps O on oc os L ln lc ls) (h1 : ps.length ≤ 1000000) (h2 : ln ≤ 32) (h3 : on ≤ 1000000) {tg : TypeId × Nat × Nat} (hG : Gl w tg) :
    Calls Tryd.prog 67 #[.int .u8 (x.toNat : Int), .pointer (some ⟨w.heap.size + 1 + 1 + 1, 0, none⟩), .pointer (some ⟨w.heap.size + 1, 0, none⟩), .pointer (some ⟨w.heap.size, 0, none⟩), .pointer (some ⟨w.heap.size + 1 + 1, 0, none⟩)] wr (SpTo w ks ps (os ++ macL ks (ls ++ ps ++ [x])) (macL ks (ls ++ ps ++ [x]))) := by
  have LT := h.size
  have KEEP : Hid (∀ w', Ext wr w' → w'.cell? ⟨w.heap.size + 1, 0, none⟩ = some (.string (strL ps)) ∧ w'.cell? ⟨w.heap.size + 1 + 1, 0, none⟩ = some (.slice O on oc) ∧ w'.cell? ⟨w.heap.size + 1 + 1 + 1, 0, none⟩ = some (.slice L ln lc)) := fun w' e => ⟨cell_of_one (h.ext e).2.2.1, cell_of_one (h.ext e).2.2.2.1, cell_of_one (h.ext e).2.2.2.2.1⟩
  have HS := Lib.hid h
  have HG := Lib.hid (fun W e => Gl.kept hG (w' := W) e hG.lt)
  clear hG
  have cL := (KEEP.out _ (Ext.refl wr)).2.2
  have i := Lib.hid h.2.2.2.2.2.2
  have ML := macL_len ks (ls ++ ps ++ [x])
  generalize hm : macL ks (ls ++ ps ++ [x]) = m at *
  replace hm := Lib.hid hm
  have KS : (cellsOf ks).toArray.size = 32 := by simp [cellsOf_len, hk]
  have MS : (cellsOf m).toArray.size = 32 := by simp [cellsOf_len, ML]
  have M1 := cellsOf_one m
  have hal : ∀ w, (zeroValue 23).run Tryd.prog w = .ok (.agg zeros32) w := fun _ => by kernel_rfl
  have hz0 := zeros32_size
  generalize zeros32 = Z at *
  clear h
  go_enter Tryd.func67, Tryd.ntmps67
  go_wp2_with (first
    | (at_builtin; (with_reducible refine wpList_append_bs rfl (B := wr.heap.size) (s := .tmp 8) (x := .tmp 9) rfl rfl rfl (Own.nil _ wr) i.out (by omega) (Nat.le_refl _) ?_); intro A1 c1 w1 o1 g1 b1; clear g1; simp only [Nat.zero_add, List.nil_append] at o1 ⊢; replace o1 := Lib.hid o1; have k1 := (KEEP.out _ b1).1; replace b1 := Lib.hid b1; simp only [Act.put, List.setIfInBounds_toArray, List.set_cons_zero, List.set_cons_succ])
    | (at_builtin; (with_reducible refine wpList_append_str rfl (ys := ps) (B := wr.heap.size) (s := .tmp 11) (x := .tmp 12) rfl rfl rfl o1.out (by omega) b1.out.size ?_); intro A2 c2 w2 o2 g2 b2; clear g2; replace o2 := Lib.hid o2; replace b2 := Lib.hid (Below.trans b1.out b2); clear k1; simp only [Act.put, List.setIfInBounds_toArray, List.set_cons_zero, List.set_cons_succ])
    | (at_builtin; (with_reducible refine wpList_append_bs rfl (B := wr.heap.size) (s := .tmp 14) (x := .tmp 16) rfl rfl rfl (o2.out.ext ((Ext.refl _).alloc _)) (Bs.one _ _ _ _) (by omega) (Nat.le_trans b2.out.size (by simp)) ?_); intro A3 c3 w3 o3 g3 b3; clear g3; replace o3 := Lib.hid o3.bs; replace b3 := Lib.hid (Below.trans (Below.alloc b2.out b2.out.size _) b3); simp only [Act.put, List.setIfInBounds_toArray, List.set_cons_zero, List.set_cons_succ])
    | (refine wpList_load_row rfl 23 _ rfl w.heap.size rfl 23 (cellsOf ks).toArray (0, 0) _ (HS.out.ext b3.out).2.1 rfl rfl (by rw [KS]; rfl) ?_; simp only [Act.put, List.setIfInBounds_toArray, List.set_cons_zero, List.set_cons_succ]))
  have dc := draw_calls hk o3.out (HG.out _ (HS.out.1.trans b3.out))
  rw [hm.out] at dc
  refine dc.mono ?_
  clear dc
  rintro e w4 ⟨rfl, e4⟩
  go_upto_region 5 with (refine wpList_store_row rfl 23 _ _ rfl w4.heap.size (cellsOf m).toArray rfl rfl 23 _ (by with_reducible exact heap_alloc_new _ _) (by rw [MS]; rfl) (by rw [MS]; exact hz0) M1 ?_; simp only [Act.put, List.setIfInBounds_toArray, List.set_cons_zero, List.set_cons_succ])
  have E4 : Ext wr w4 := Ext.trans (show Ext wr w3 from b3.out) e4
  have gE : wr.heap.size ≤ w4.heap.size := E4.size
  refine wp_gen (fun W => Ext wr W ∧ Ky W w4.heap.size m) ⟨E4.trans (Ext.newRow _ _ _), Ky.new _ ML⟩ ?_
  rintro w5 ⟨e5, ky5⟩
  generalize w4.heap.size = gb at *
  clear E4 e4 o3 b3 o1 b1 o2 b2
  have S5 := HS.out.ext e5
  have c5 := cell_of_one S5.2.2.2.2.1
  have f5 := free_of_one S5.2.2.2.2.1
  replace S5 := Lib.hid S5
  replace e5 := Lib.hid e5
  replace ky5 := Lib.hid ky5
  go_upto_region 6 with fail
  have OB : ∀ g, Value.ownBlock (.slice O on oc) = some g → w.heap.size + 1 + 1 + 1 + 1 ≤ g ∧ g < wr.heap.size := fun g hg => World.ownsRow.lt HS.out.2.2.2.2.2.1 g hg
  refine wp_gen (fun W => Sp w W ks ps O on oc os (some ⟨gb, 0, none⟩) 32 32 m ∧ Ky W gb m) ?_ ?_
  · obtain ⟨a, b, c, d, f, g, i⟩ := S5.out
    have bl : ∀ j o, w5.heap[j]? = some o → j ≠ w.heap.size + 1 + 1 + 1 → (w5.setCell ⟨w.heap.size + 1 + 1 + 1, 0, none⟩ (.slice (some ⟨gb, 0, none⟩) 32 32)).heap[j]? = some o := fun j o hj hne => (Below.heap_setCell _ _ _ _ hne).trans hj
    have ky6 : Ky (w5.setCell ⟨w.heap.size + 1 + 1 + 1, 0, none⟩ (.slice (some ⟨gb, 0, none⟩) 32 32)) gb m := ⟨bl _ _ ky5.out.1 (by omega), ky5.out.2⟩
    refine ⟨⟨a.setCell (show w.heap.size ≤ w.heap.size + 1 + 1 + 1 by omega) _, bl _ _ b (by omega), bl _ _ c (by omega), bl _ _ d (by omega), one_setCell f, ?_, ky6.bs⟩, ky6⟩
    refine Own.kept g (gr_set (gr_ext (Ext.refl w5) _) 0 _) (.inr fun hq => ?_)
    have := (OB _ hq).1
    omega
  rintro w6 ⟨S6, ky6⟩
  have c6 := cell_of_one S6.2.2.2.1
  have l6 := cell_of_one S6.2.2.2.2.1
  have o6 := Lib.hid S6.2.2.2.2.2.1
  have d6 := Lib.hid S6.2.2.2.1
  have kb6 := Lib.hid ky6.bs
  replace S6 := Lib.hid S6
  replace ky6 := Lib.hid ky6
  have z6 : w.heap.size + 1 + 1 + 1 + 1 ≤ w6.heap.size := S6.out.size
  clear c5 f5 S5 e5 ky5 KEEP cL i
  go_wp2_with (at_builtin; ((with_reducible refine wpList_append_bs rfl (B := w.heap.size + 1 + 1 + 1 + 1) (s := .tmp 22) (x := .tmp 23) rfl rfl rfl o6.out kb6.out (by omega) z6 ?_); intro A7 c7 w7 o7 g7 b7; have h7 := (b7.block (w.heap.size + 1 + 1) (by omega)).trans d6.out; have d7 := cell_of_one h7; have f7 := free_of_one h7; replace h7 := Lib.hid h7; replace o7 := Lib.hid o7; replace b7 := Lib.hid b7; replace g7 := Lib.hid g7; simp only [Act.put, List.setIfInBounds_toArray, List.set_cons_zero, List.set_cons_succ]))
  go_end0
  refine ⟨rfl, A7, on + 32, c7, some ⟨gb, 0, none⟩, 32, ?_⟩
  obtain ⟨a, b, c, d, f, g, i⟩ := S6.out
  have bl : ∀ j o, w6.heap[j]? = some o → j < w.heap.size + 1 + 1 + 1 + 1 → j ≠ w.heap.size + 1 + 1 → (w7.setCell ⟨w.heap.size + 1 + 1, 0, none⟩ (.slice A7 (on + 32) c7)).heap[j]? = some o := fun j o hj hlt hne => (Below.heap_setCell _ _ _ _ hne).trans ((b7.out.block j hlt).trans hj)
  have kb : Ky (w7.setCell ⟨w.heap.size + 1 + 1, 0, none⟩ (.slice A7 (on + 32) c7)) gb m := by
    refine ⟨(Below.heap_setCell _ _ _ _ (show gb ≠ w.heap.size + 1 + 1 by omega)).trans ((g7.out.block gb (heap_lt ky6.out.1) (fun q => ?_)).trans ky6.out.1), ky6.out.2⟩
    have := (OB gb q.symm).2
    omega
  refine ⟨Ext.setCell (Below.trans a (b7.out.mono (by omega))) (show w.heap.size ≤ w.heap.size + 1 + 1 by omega) _, bl _ _ b (by omega) (by omega), bl _ _ c (by omega) (by omega), one_setCell h7.out, bl _ _ f (by omega) (by omega), ?_, kb.bs⟩
  refine Own.kept o7.out (gr_set (gr_ext (Ext.refl w7) _) 0 _) (.inr fun hq => ?_)
  have := o7.out.ge _ hq
  omega
end Go.Proofs.YthdjojindijmnaaDoor
