import Derived.Test.YthdjojindijmnaaDoorPkB
import Derived.Test.YthdjojindijmnaaDoorSeqT
/-
  SealBack: what is closed is opened as it was; with its last byte turned it is not.
-/
namespace Go.Proofs.YthdjojindijmnaaDoor
open Go.ChangeShapes Go.WideShapes Go.ChangeAt Go.RowKit Go.Deep
set_option maxRecDepth 100000

theorem Bs.setB {w : World} {g n c j x : Nat} {xs : List UInt8} (h : Bs w (some ⟨g, 0, none⟩) n c xs) (hj : j < n) (hx : x < 256) : Bs (w.setCell ⟨g, j, none⟩ (.int .u8 (x : Int))) (some ⟨g, 0, none⟩) n c (xs.set j (UInt8.ofNat x)) := by
  have hl := h.len
  obtain ⟨b, off, e, hb, hc⟩ := h.pos (by omega)
  injection e with e
  injection e with e1 e2
  subst e1 e2
  refine ⟨by rw [List.length_set]; exact hl, h.le, h.cap, fun _ => ⟨g, 0, rfl, by simpa [World.setCell] using hb, fun i hi => ?_⟩⟩
  have h1 := hc i hi
  rw [Nat.zero_add] at h1 ⊢
  rw [bt_set (by omega) hx]
  by_cases q : i = j
  · subst q
    rw [if_pos rfl]
    exact World.cell?_setCell_same _ _ _ h1
  · rw [if_neg q, World.cell?_setCell_other _ _ _ _ (fun p => q (by injection p with _ p2 _; exact p2.symm))]
    exact h1
theorem sealBack_ne {ks bs ts : List UInt8} {m j : Nat} (h : ts.length = m) (hj : j = m + 31) : decide (sealM ks bs ((flip (sealL ks bs ts) j 0).take m) = (flip (sealL ks bs ts) j 0).drop m) = false := by
  have ML := sealM_len ks bs (sealT ks ts)
  have e1 : (flip (sealL ks bs ts) j 0).take m = sealT ks ts := by
    unfold Go.Proofs.YthdjojindijmnaaDoor.flip
    rw [List.take_set_of_le (by omega), sealL_take h]
  have e2 : (flip (sealL ks bs ts) j 0).drop m = flip (sealM ks bs (sealT ks ts)) 31 0 := by
    have hb : bt (sealL ks bs ts) j = bt (sealM ks bs (sealT ks ts)) 31 := by
      rw [← sealL_drop (ks := ks) (bs := bs) h, bt_drop, hj]
    unfold Go.Proofs.YthdjojindijmnaaDoor.flip
    rw [List.drop_set, if_neg (by omega), sealL_drop h, hb, show j - m = 31 by omega]
  rw [e1, e2]
  exact decide_eq_false (flip_ne (by omega) (by omega))

set_option maxHeartbeats 1000000 in
theorem sealBack_out {A A' : Option Addr} {n c m d : Nat} {ks bs ts : List UInt8} {w : World} (h : Bs w A n c bs) (h' : Bs w A' m d ts) (hq : 500 < n ∨ 500 < m) {tg : TypeId × Nat × Nat} (hG : Gl w tg) :
    Calls Tryd.prog 7 #[.agg (cellsOf ks).toArray, .slice A n c, .slice A' m d] w fun e w' => e = .returned (.bool true) ∧ Ext w w' := by
  have h1 := h.le
  have h2 := h.cap
  have h3 := h'.le
  have h4 := h'.cap
  have AW := Lib.hid (fun (W : World) (e : Ext w W) => awake5_calls (hG.kept e hG.lt))
  clear hG
  generalize (cellsOf ks).toArray = T
  by_cases q1 : 500 < n
  · have q1' : decide ((500 : Int) < (n : Int)) = true := by simp; omega
    clear hq
    go_enter Tryd.func7, Tryd.ntmps7
    go_wp2_with fail
    refine (AW.out _ ((Ext.refl w).alloc _)).mono ?_
    rintro e w1 ⟨rfl, e1⟩
    go_wp2_with fail
    go_ret
    exact ⟨rfl, ((Ext.refl w).alloc _).trans e1⟩
  · have q1' : decide ((500 : Int) < (n : Int)) = false := by simp; omega
    have q2' : decide ((500 : Int) < (m : Int)) = true := by simp; omega
    clear hq
    go_enter Tryd.func7, Tryd.ntmps7
    go_wp2_with fail
    refine (AW.out _ ((Ext.refl w).alloc _)).mono ?_
    rintro e w1 ⟨rfl, e1⟩
    go_wp2_with fail
    go_ret
    exact ⟨rfl, ((Ext.refl w).alloc _).trans e1⟩

set_option maxHeartbeats 4000000 in
theorem sealBack_main {A A' : Option Addr} {n c m d : Nat} {ks bs ts : List UInt8} {w : World} (hk : ks.length = 32) (h : Bs w A n c bs) (h' : Bs w A' m d ts) (hn : n ≤ 500) (hm : m ≤ 500) {tg : TypeId × Nat × Nat} (hG : Gl w tg) :
    Calls Tryd.prog 7 #[.agg (cellsOf ks).toArray, .slice A n c, .slice A' m d] w fun e w' => e = .returned (.bool true) ∧ Ext w w' := by
  have h1 := h.le
  have h2 := h.cap
  have h3 := h'.le
  have h4 := h'.cap
  have hl := h.len
  have hl' := h'.len
  have q1' : decide ((500 : Int) < (n : Int)) = false := by simp; omega
  have q2' : decide ((500 : Int) < (m : Int)) = false := by simp; omega
  have AW := Lib.hid (fun (W : World) (e : Ext w W) => awake5_calls (hG.kept e hG.lt))
  have CL : Hid (∀ (W : World), Ext w W → Calls Tryd.prog 22 #[.agg (cellsOf ks).toArray, .slice A n c, .slice A' m d] W (RetOwn (sealL ks bs ts) W)) := fun W e => close_calls hk (h.ext e) (h'.ext e) (by omega) (by omega) (hG.kept e hG.lt)
  have OP : Hid (∀ (W : World) (A1 : Option Addr) (n1 c1 : Nat), n1 = m + 32 → Ext w W → Bs W A1 n1 c1 (sealL ks bs ts) → Calls Tryd.prog 23 #[.agg (cellsOf ks).toArray, .slice A n c, .slice A1 n1 c1] W (RetBsE ts 0 W)) := fun W A1 n1 c1 hn1 e b => open_back hk (h.ext e) b hl' (by omega) (by omega) (hG.kept e hG.lt)
  obtain ⟨j, hj⟩ : ∃ j, j = m + 31 := ⟨_, rfl⟩
  have ON : Hid (∀ (W : World) (A1 : Option Addr) (n1 c1 : Nat), n1 = m + 32 → Ext w W → Bs W A1 n1 c1 (flip (sealL ks bs ts) j 0) → Calls Tryd.prog 23 #[.agg (cellsOf ks).toArray, .slice A n c, .slice A1 n1 c1] W (RetBsE [] 4 W)) := fun W A1 n1 c1 hn1 e b => open_not hk (h.ext e) b (q := m) (by omega) (sealBack_ne hl' hj) (by omega) (by omega) (hG.kept e hG.lt)
  have CLL := (sealL_len ks bs ts).trans (congrArg (· + 32) hl')
  clear hG
  generalize sealL ks bs ts = C at *
  replace CLL := Lib.hid CLL
  have jb : j ≤ 531 := by omega
  replace hj := Lib.hid hj
  have KS : (cellsOf ks).toArray.size = 32 := by simp [cellsOf_len, hk]
  have hal := key_alloc
  have hz0 := zeros32_size
  generalize zeros32 = Z at *
  have P0 : Hid (∀ s, Ext (w.alloc (Obj.cells (cellsOf ks).toArray 23)) s → Ky s w.heap.size ks ∧ Bs s A n c bs ∧ Bs s A' m d ts ∧ Ext w s) := fun s e => ⟨(Ky.boxed w hk).ext e, h.ext (((Ext.refl w).alloc _).trans e), h'.ext (((Ext.refl w).alloc _).trans e), ((Ext.refl w).alloc _).trans e⟩
  clear h h'
  go_enter Tryd.func7, Tryd.ntmps7
  go_wp2_with fail
  refine (AW.out _ ((Ext.refl w).alloc _)).mono ?_
  rintro e w1 ⟨rfl, e1⟩
  have P1 : Hid (∀ s, Ext w1 s → Ky s w.heap.size ks ∧ Bs s A n c bs ∧ Bs s A' m d ts ∧ Ext w s) := fun s e => P0.out s (e1.trans e)
  clear AW P0 e1
  have kk := Lib.hid (P1.out _ (Ext.refl _)).1
  go_wp2_with (refine wpList_exec rfl (exec_load_row rfl rfl kk.out.1 rfl rfl (by rw [KS]; rfl)) ?_; simp only [Act.put, List.setIfInBounds_toArray, List.set_cons_zero, List.set_cons_succ])
  refine (CL.out _ (P1.out _ (Ext.refl _)).2.2.2).mono ?_
  rintro e w2 ⟨A1, n1, c1, rfl, o1, e2⟩
  have hn1 : n1 = m + 32 := by rw [← o1.len, CLL.out]
  have u1 : n1 ≤ 532 := by omega
  have tq : ((n1 : Int) != (m : Int) + 32) = false := by
    rw [bne, show ((n1 : Int) == (m : Int) + 32) = true from decide_eq_true (by omega)]; rfl
  have jn : Hid (n1 = j + 1) := by unfold Hid; rw [hj.out, hn1]
  replace hn1 := Lib.hid hn1
  have o1b := o1.bs
  have g1 := o1b.le
  have g2 := o1b.cap
  have P2 : Hid (∀ s, Ext w2 s → Ky s w.heap.size ks ∧ Bs s A' m d ts ∧ Ext w s ∧ Bs s A1 n1 c1 C) := fun s e => by
    obtain ⟨p1, p2, p3, p4⟩ := P1.out s (e2.trans e)
    exact ⟨p1, p3, p4, o1b.ext e⟩
  clear P1 e2 o1 o1b kk CL
  have kk := Lib.hid (P2.out _ (Ext.refl _)).1
  go_upto_region 7 with fail
  go_wp2_with (refine wpList_exec rfl (exec_load_row rfl rfl kk.out.1 rfl rfl (by rw [KS]; rfl)) ?_; simp only [Act.put, List.setIfInBounds_toArray, List.set_cons_zero, List.set_cons_succ])
  refine (OP.out _ _ _ _ hn1.out (P2.out _ (Ext.refl _)).2.2.1 (P2.out _ (Ext.refl _)).2.2.2).mono ?_
  rintro e w3 ⟨A2, n2, c2, rfl, b2, e3⟩
  obtain rfl : n2 = m := by rw [← b2.len, hl']
  have g3 := b2.le
  have g4 := b2.cap
  have P3 : Hid (∀ s, Ext w3 s → Ky s w.heap.size ks ∧ Bs s A' n2 d ts ∧ Ext w s ∧ Bs s A1 n1 c1 C ∧ Bs s A2 n2 c2 ts) := fun s e => by
    obtain ⟨p1, p2, p3, p4⟩ := P2.out s (e3.trans e)
    exact ⟨p1, p2, p3, p4, b2.ext e⟩
  clear P2 e3 b2 kk OP tq
  have s3 := Lib.hid (P3.out _ ((Ext.refl _).alloc (.cells #[] 5))).2.2.2.1
  go_upto_region 9 with (at_builtin; (with_reducible refine wpList_append_bs rfl (B := w3.heap.size) (s := .tmp 41) (x := .tmp 42) rfl rfl rfl (Own.empty w3 _ (Nat.le_refl _)) s3.out (by omega) (by simp) ?_); intro A5 c5 w5 o5 g5 b5; simp only [Nat.zero_add, List.nil_append] at o5 ⊢; simp only [Act.put, List.setIfInBounds_toArray, List.set_cons_zero, List.set_cons_succ])
  have e5 : Ext w3 w5 := Below.trans ((Ext.refl w3).alloc _) b5
  have z5 : w3.heap.size ≤ w5.heap.size := e5.size
  clear g5 b5 s3
  have ob := o5.bs
  rcases o5.2 with ⟨hv, h0⟩ | ⟨g, cap, cur, hv, hb, hg, hnc, hcm, hcs, hct⟩
  · have := jn.out; omega
  injection hv with v1 v2 v3
  subst v1 v3
  have jl : j < n1 := by have := jn.out; omega
  have fz := frozen_of_row w5 g j _ _ hg
  have cj : w5.cell? ⟨g, j, none⟩ = some (.int .u8 (bt C j : Int)) := by
    obtain ⟨b, off, q, _, hc⟩ := ob.pos (by omega)
    injection q with q
    injection q with q1 q2
    subst q1 q2
    have := hc j jl
    rwa [Nat.zero_add] at this
  obtain ⟨y, hy⟩ : ∃ y, y = bt C j ^^^ 2 ^ 0 := ⟨_, rfl⟩
  have y256 : y < 256 := by rw [hy]; exact flip_lt (by omega)
  have fx : bits .xor .u8 (bt C j : Int) 1 = (y : Int) := by
    have := flip_int (xs := C) (j := j) (k := 0) (by omega)
    rw [hy, ← this]
    rfl
  have B6 : Hid (Bs (w5.setCell ⟨g, j, none⟩ (.int .u8 (y : Int))) (some ⟨g, 0, none⟩) n1 c5 (flip C j 0)) := by
    have := ob.setB jl y256
    rw [hy] at this ⊢
    exact this
  have E6 : Hid (Ext w3 (w5.setCell ⟨g, j, none⟩ (.int .u8 (y : Int)))) := e5.setCell (show w3.heap.size ≤ g from hb) _
  have ij : (n1 : Int) - 1 = (j : Int) := by have := jn.out; omega
  have iw : IntKind.i64.wrap (j : Int) = (j : Int) := IntWalk.i64_in _ (by omega)
  have i0 : (0 : Int) ≤ (j : Int) := by omega
  have i1 : (j : Int) < (n1 : Int) := by omega
  have i2 : ((j : Int)).toNat = j := by omega
  have gn := ob.le
  have gc := ob.cap
  have bb := bt_lt C j
  clear ob o5 hb hg hnc hcm hcs hct e5 hy
  generalize bt C j = x at *
  go_upto_region 10 with fail
  refine wp_gen (fun W => ∀ s, Ext W s → Ky s w.heap.size ks ∧ Bs s A' n2 d ts ∧ Ext w s ∧ Bs s A2 n2 c2 ts ∧ Bs s (some ⟨g, 0, none⟩) n1 c5 (flip C j 0)) (fun s e => by
    obtain ⟨p1, p2, p3, p4, p5⟩ := P3.out s (E6.out.trans e)
    exact ⟨p1, p2, p3, p5, B6.out.ext e⟩) ?_
  clear P3 B6 E6 fz cj fx ij iw i0 i1 i2
  rintro w6 P6
  replace P6 := Lib.hid P6
  generalize flip C j 0 = F at *
  have kk := Lib.hid (P6.out _ (Ext.refl _)).1
  go_wp2_with (refine wpList_exec rfl (exec_load_row rfl rfl kk.out.1 rfl rfl (by rw [KS]; rfl)) ?_; simp only [Act.put, List.setIfInBounds_toArray, List.set_cons_zero, List.set_cons_succ])
  refine (ON.out _ _ _ _ hn1.out (P6.out _ (Ext.refl _)).2.2.1 (P6.out _ (Ext.refl _)).2.2.2.2).mono ?_
  rintro e w7 ⟨A7, n7, c7, rfl, b7, e7⟩
  obtain ⟨p1, p2, p3, p4, p5⟩ := P6.out _ e7
  have cv1 := conv_bs p2
  have cv2 := conv_bs p4
  replace p3 := Lib.hid p3
  clear p1 p2 p4 p5 P6 b7 e7 kk ON
  go_wp2_with fail
  go_ret
  exact ⟨rfl, p3.out⟩

theorem sealBack_calls {A A' : Option Addr} {n c m d : Nat} {ks bs ts : List UInt8} {w : World} (hk : ks.length = 32) (h : Bs w A n c bs) (h' : Bs w A' m d ts) {tg : TypeId × Nat × Nat} (hG : Gl w tg) :
    Calls Tryd.prog 7 #[.agg (cellsOf ks).toArray, .slice A n c, .slice A' m d] w fun e w' => e = .returned (.bool true) ∧ Ext w w' := by
  by_cases hq : 500 < n ∨ 500 < m
  · exact sealBack_out h h' hq hG
  · exact sealBack_main hk h h' (by omega) (by omega) hG
end Go.Proofs.YthdjojindijmnaaDoor
