/-
  The document's Close (layer 5).
-/
import Derived.Test.YthdjojindijmnaaDoorR5Tag
namespace Go.Proofs.YthdjojindijmnaaDoor
open Go.ChangeShapes Go.WideShapes Go.ChangeAt Go.RowKit Go.Deep
set_option maxRecDepth 100000

set_option maxHeartbeats 2000000 in
theorem r5close_calls {A B : Option Addr} {n c m d : Nat} {ks bs ts : List UInt8} {w : World} (hk : ks.length = 32) (h : Bs w A n c bs) (h' : Bs w B m d ts) (hn : n ≤ 100000) (hm : m ≤ 100000) :
    Calls Tryd.prog 25 #[.agg (cellsOf ks).toArray, .slice A n c, .slice B m d] w (RetBs (sealL ks bs ts) w) := by
  have TURN : Hid (∀ W, Ext w W → Calls Tryd.prog 36 #[.agg (cellsOf ks).toArray, .slice B m d] W (RetOwn (sealT ks ts) W)) := fun W e => r5turn_calls hk (h'.ext e) (by omega)
  have TAG : Hid (∀ W C d', Ext w W → Bs W C m d' (sealT ks ts) → Calls Tryd.prog 37 #[.agg (cellsOf ks).toArray, .slice A n c, .slice C m d'] W fun e w' => e = .returned (.agg (cellsOf (sealM ks bs (sealT ks ts))).toArray) ∧ Ext W w') := fun W C d' e b => r5tag_calls hk (h.ext e) b hn hm
  have TL := (sealT_len ks ts).trans h'.len
  have ML := sealM_len ks bs (sealT ks ts)
  have z1 := h.le
  have z2 := h.cap
  have z3 := h'.le
  have z4 := h'.cap
  clear h h'
  unfold sealL
  generalize sealM ks bs (sealT ks ts) = M at *
  generalize sealT ks ts = T at *
  have KS : (cellsOf ks).toArray.size = 32 := by simp [cellsOf_len, hk]
  have MS : (cellsOf M).toArray.size = 32 := by simp [cellsOf_len, ML]
  have M1 := cellsOf_one M
  have ha2 := key_alloc
  have hz2 := zeros32_size
  generalize zeros32 = Z at *
  have P0 : Hid (∀ s, Ext (w.alloc (Obj.cells (cellsOf ks).toArray 23)) s → Ky s w.heap.size ks ∧ Ext w s) := fun s e => ⟨(Ky.boxed w hk).ext e, ((Ext.refl w).alloc _).trans e⟩
  go_enter Tryd.func25, Tryd.ntmps25
  go_upto_region 1 with fail
  have k0 := Lib.hid (P0.out _ (Ext.refl _)).1
  go_wp2_with (refine wpList_load_row rfl 23 _ rfl w.heap.size rfl 23 (cellsOf ks).toArray (0, 0) _ k0.out.1 rfl rfl (by rw [KS]; rfl) ?_; simp only [Act.put, List.setIfInBounds_toArray, List.set_cons_zero, List.set_cons_succ])
  refine (TURN.out _ (P0.out _ (Ext.refl _)).2).mono ?_
  rintro e w2 ⟨A2, n2, c2, rfl, o2, e2⟩
  obtain rfl : n2 = m := by rw [← o2.len, TL]
  have P2 : Hid (∀ s, Ext w2 s → Ky s w.heap.size ks ∧ Ext w s) := fun s e => P0.out s (e2.trans e)
  have zs := (P0.out _ (Ext.refl _)).2.size
  replace o2 := Lib.hid (o2.lower zs)
  clear P0 k0 TURN e2 zs
  have k0 := Lib.hid (P2.out _ (Ext.refl _)).1
  go_wp2_with (refine wpList_load_row rfl 23 _ rfl w.heap.size rfl 23 (cellsOf ks).toArray (0, 0) _ k0.out.1 rfl rfl (by rw [KS]; rfl) ?_; simp only [Act.put, List.setIfInBounds_toArray, List.set_cons_zero, List.set_cons_succ])
  refine (TAG.out _ _ _ (P2.out _ (Ext.refl _)).2 o2.out.bs).mono ?_
  rintro e v ⟨rfl, e3⟩
  have o3 := Lib.hid (o2.out.ext e3)
  have x3 := Lib.hid (P2.out _ e3).2
  clear P2 k0 TAG e3 o2
  have a1 : Hid ((v.alloc (Obj.cells Z 23)).heap[v.heap.size]? = some (.cells Z 23 (0, 0))) := heap_alloc_new _ _
  go_upto_region 3 with (refine wpList_store_row rfl 23 _ _ rfl v.heap.size (cellsOf M).toArray rfl rfl 23 Z a1.out (by rw [MS]; rfl) (by rw [MS]; exact hz2) M1 ?_; simp only [Act.put, List.setIfInBounds_toArray, List.set_cons_zero, List.set_cons_succ])
  obtain ⟨f, hf⟩ : ∃ f, f = v.heap.size := ⟨_, rfl⟩
  have e4 : Ext v ((v.alloc (Obj.cells Z 23)).setRow v.heap.size (cellsOf M).toArray) := below_setRow ((Ext.refl v).alloc _) (Nat.le_refl _) _
  refine wp_gen (fun W => Ext w W ∧ Own w.heap.size W A2 n2 c2 T ∧ Bs W (some ⟨f, 0, none⟩) 32 32 M) ⟨x3.out.trans e4, o3.out.ext e4, part_bs (t := 23) (p := []) (q := []) (by rw [hf]; exact setRow_heap _ _ _ _ _ _ a1.out) (by simp) rfl ML (by omega)⟩ ?_
  rw [← hf]
  clear hf a1 e4 x3 o3
  rintro w4 ⟨x4, o4, b4⟩
  replace x4 := Lib.hid x4
  replace o4 := Lib.hid o4
  replace b4 := Lib.hid b4
  go_wp2_with (at_builtin; (with_reducible refine wpList_append_bs rfl (B := w.heap.size) (s := .tmp 16) (x := .tmp 17) rfl rfl rfl o4.out b4.out (by omega) x4.out.size ?_); intro A5 c5 w5 o5 g5 b5; replace o5 := Lib.hid o5; clear g5; replace b5 := Lib.hid b5; simp only [Act.put, List.setIfInBounds_toArray, List.set_cons_zero, List.set_cons_succ])
  go_ret
  exact ⟨_, _, _, rfl, o5.out.bs, Below.trans x4.out b5.out⟩
end Go.Proofs.YthdjojindijmnaaDoor
