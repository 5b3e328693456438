/-
  KdfDrawn: a key that is drawn is the tag of the bytes by the salt.
-/
import Derived.Test.YtdiigbknfjceoaaDoorAwake3
namespace Go.Proofs.YtdiigbknfjceoaaDoor
open Go.ChangeShapes Go.WideShapes Go.ChangeAt Go.RowKit Go.Deep

set_option maxRecDepth 100000 in
set_option maxHeartbeats 2000000 in
theorem kdfDrawn_calls {A : Option Addr} {n c : Nat} {ks xs : List UInt8} {w : World} (hk : ks.length = 32) (h : Bs w A n c xs) {tg : TypeId × Nat × Nat} (hG : Gl w tg) :
    Calls Tryd.prog 9 #[.agg (cellsOf ks).toArray, .slice A n c] w fun e w' => e = .returned (.bool true) ∧ Ext w w' := by
  have h1 := h.le
  have h2 := h.cap
  have HG : Hid (∀ wr : World, Ext w wr → Gl wr tg) := fun wr e => hG.kept e hG.lt
  clear hG
  have AW := Lib.hid (fun (W : World) (e : Ext w W) => awake_calls (HG.out _ e))
  have h' := Lib.hid h
  clear h
  have ky0 : Hid (Ky (w.alloc (Obj.cells (cellsOf ks).toArray 25)) w.heap.size ks) := Ky.boxed w hk
  have ML := macL_len ks xs
  by_cases q1 : 1000 < n
  · have q1' : decide ((1000 : Int) < (n : Int)) = true := decide_eq_true (by omega)
    go_enter Tryd.func9, Tryd.ntmps9
    go_wp2_with fail
    refine (AW.out _ ((Ext.refl w).alloc _)).mono ?_
    rintro e w1 ⟨rfl, e1⟩
    go_wp2_with fail
    go_ret
    exact ⟨rfl, ((Ext.refl w).alloc _).trans e1⟩
  · have q1' : decide ((1000 : Int) < (n : Int)) = false := decide_eq_false (by omega)
    have MAC : Hid (∀ W, Ext w W → Ky W w.heap.size ks → Calls Tryd.prog 16 #[.slice (some ⟨w.heap.size, 0, none⟩) 32 32, .slice A n c] W fun e w' => e = .returned (.tuple #[.agg (cellsOf (macL ks xs)).toArray, .int .i64 0]) ∧ Ext W w') := fun W e ky => mac_calls ky.bs (h'.out.ext e) (by omega) (HG.out _ e)
    have DRAW : Hid (∀ W A n c, Ext w W → Bs W A n c xs → Calls Tryd.prog 23 #[.agg (cellsOf ks).toArray, .slice A n c] W fun e w' => e = .returned (.agg (cellsOf (macL ks xs)).toArray) ∧ Ext W w') := fun W A n c e b => draw_calls hk b (HG.out _ e)
    generalize macL ks xs = ms at *
    have hal := key_alloc
    have hz0 := zeros32_size
    generalize zeros32 = Z at *
    have HM : (cellsOf ms).toArray.size = 32 := by simp [cellsOf_len, ML]
    have HM1 := cellsOf_one ms
    have KS : (cellsOf ks).toArray.size = 32 := by simp [cellsOf_len, hk]
    go_enter Tryd.func9, Tryd.ntmps9
    go_wp2_with fail
    refine (AW.out _ ((Ext.refl w).alloc _)).mono ?_
    rintro e w1 ⟨rfl, e1⟩
    have E1 : Hid (Ext w w1) := ((Ext.refl w).alloc _).trans e1
    have ky1 := Lib.hid (ky0.out.ext e1)
    clear AW ky0 e1
    go_wp2_with fail
    refine (MAC.out _ E1.out ky1.out).mono ?_
    rintro e w2 ⟨rfl, e2⟩
    go_upto_region 5 with (refine wpList_store_row rfl 25 _ _ rfl w2.heap.size (cellsOf ms).toArray rfl rfl 25 _ (by with_reducible exact heap_alloc_new _ _) (by rw [HM]; rfl) (by rw [HM]; exact hz0) HM1 ?_; simp only [Act.put, List.setIfInBounds_toArray, List.set_cons_zero, List.set_cons_succ])
    obtain ⟨g, hg⟩ : ∃ g, g = w2.heap.size := ⟨_, rfl⟩
    refine wp_gen (fun W => Ext w W ∧ Ky W w.heap.size ks ∧ Ky W g ms) ⟨E1.out.trans (e2.trans (Ext.newRow _ _ _)), ky1.out.ext (e2.trans (Ext.newRow _ _ _)), by rw [hg]; exact Ky.new _ ML⟩ ?_
    rw [← hg]
    clear hg E1 ky1 e2 MAC
    rintro w3 ⟨E3, k3, m3⟩
    replace E3 := Lib.hid E3
    replace k3 := Lib.hid k3
    replace m3 := Lib.hid m3
    go_wp2_with (first
      | (at_builtin; (with_reducible refine wpList_append_bs rfl (B := w3.heap.size) (s := .tmp 21) (x := .tmp 22) rfl rfl rfl (Own.empty w3 _ (Nat.le_refl _)) (h'.out.ext (E3.out.alloc _)) (by omega) (by simp) ?_); intro A4 c4 w4 o4 g4 b4; simp only [Nat.zero_add, List.nil_append] at o4 ⊢; clear g4; have E4 : Hid (Ext w3 w4) := Below.trans ((Ext.refl w3).alloc _) b4; replace o4 := Lib.hid o4.bs; have k4 := Lib.hid (k3.out.ext E4.out); clear b4; simp only [Act.put, List.setIfInBounds_toArray, List.set_cons_zero, List.set_cons_succ])
      | (refine wpList_load_row rfl 25 _ rfl w.heap.size rfl 25 (cellsOf ks).toArray (0, 0) _ k4.out.1 rfl rfl (by rw [KS]; rfl) ?_; simp only [Act.put, List.setIfInBounds_toArray, List.set_cons_zero, List.set_cons_succ]))
    refine (DRAW.out _ _ _ _ (E3.out.trans E4.out) o4.out).mono ?_
    rintro e w5 ⟨rfl, e5⟩
    have n4 := o4.out.le
    go_upto_region 7 with (refine wpList_store_row rfl 25 _ _ rfl w5.heap.size (cellsOf ms).toArray rfl rfl 25 _ (by with_reducible exact heap_alloc_new _ _) (by rw [HM]; rfl) (by rw [HM]; exact hz0) HM1 ?_; simp only [Act.put, List.setIfInBounds_toArray, List.set_cons_zero, List.set_cons_succ])
    obtain ⟨g6, hg6⟩ : ∃ g, g = w5.heap.size := ⟨_, rfl⟩
    have e6 := E4.out.trans (e5.trans (Ext.newRow w5 (Obj.cells Z 25) (cellsOf ms).toArray))
    refine wp_gen (fun W => Ext w W ∧ Ky W g ms ∧ Ky W g6 ms ∧ Bs W A4 n c4 xs ∧ Bs W A n c xs) ⟨E3.out.trans e6, m3.out.ext e6, by rw [hg6]; exact Ky.new _ ML, o4.out.ext (e5.trans (Ext.newRow _ _ _)), h'.out.ext (E3.out.trans e6)⟩ ?_
    rw [← hg6]
    clear hg6 e6 e5
    rintro W ⟨eW, kx, ky, bc, bb⟩
    have cv1 := conv_bs bc
    have cv2 := conv_bs bb
    replace kx := Lib.hid kx
    replace ky := Lib.hid ky
    replace eW := Lib.hid eW
    clear E3 k3 m3 E4 o4 k4 DRAW bc bb h'
    have hd : decide (ms = ms) = true := decide_eq_true rfl
    replace hd := Lib.hid hd
    go_wp2_with (first
      | (refine wpList_load_rowW rfl 25 _ rfl g rfl 25 (cellsOf ms).toArray (0, 0) _ kx.out.1 rfl rfl (by rw [HM]; rfl) ?_; simp only [Act.put, List.setIfInBounds_toArray, List.set_cons_zero, List.set_cons_succ])
      | (refine wpList_load_rowW rfl 25 _ rfl g6 rfl 25 (cellsOf ms).toArray (0, 0) _ ky.out.1 rfl rfl (by rw [HM]; rfl) ?_; simp only [Act.put, List.setIfInBounds_toArray, List.set_cons_zero, List.set_cons_succ])
      | (refine wpList_eql_keyB rfl _ _ _ rfl ms ms true hd.out rfl rfl ML ML ?_; simp only [Act.put, List.setIfInBounds_toArray, List.set_cons_zero, List.set_cons_succ]))
    go_ret
    exact ⟨rfl, eW.out⟩
end Go.Proofs.YtdiigbknfjceoaaDoor
