import Derived.Test.YthdjojindijmnaaDoorPkB
import Derived.Test.YthdjojindijmnaaDoorSeqT
/-
  SealOne: what opens, closed again, has just the same bytes.
-/
namespace Go.Proofs.YthdjojindijmnaaDoor
open Go.ChangeShapes Go.WideShapes Go.ChangeAt Go.RowKit Go.Deep
set_option maxRecDepth 100000

theorem sealOne_eq {ks bs cs : List UInt8} {q : Nat} (h : sealM ks bs (cs.take q) = cs.drop q) : sealL ks bs (sealT ks (cs.take q)) = cs := by
  unfold sealL
  rw [sealT_twice, h, List.take_append_drop]

set_option maxHeartbeats 1000000 in
theorem sealOne_out {A A' : Option Addr} {n c m d : Nat} {ks bs ts : List UInt8} {w : World} (h : Bs w A n c bs) (h' : Bs w A' m d ts) (hq : 500 < n ∨ 500 < m) {tg : TypeId × Nat × Nat} (hG : Gl w tg) :
    Calls Tryd.prog 8 #[.agg (cellsOf ks).toArray, .slice A n c, .slice A' m d] w fun e w' => e = .returned (.bool true) ∧ Ext w w' := by
  have h1 := h.le
  have h2 := h.cap
  have h3 := h'.le
  have h4 := h'.cap
  have AW := Lib.hid (fun (W : World) (e : Ext w W) => awake5_calls (hG.kept e hG.lt))
  clear hG
  generalize (cellsOf ks).toArray = T
  by_cases q1 : 500 < n
  · have q1' : decide ((500 : Int) < (n : Int)) = true := by simp; omega
    clear hq
    go_enter Tryd.func8, Tryd.ntmps8
    go_wp2_with fail
    refine (AW.out _ ((Ext.refl w).alloc _)).mono ?_
    rintro e w1 ⟨rfl, e1⟩
    go_wp2_with fail
    go_ret
    exact ⟨rfl, ((Ext.refl w).alloc _).trans e1⟩
  · have q1' : decide ((500 : Int) < (n : Int)) = false := by simp; omega
    have q2' : decide ((500 : Int) < (m : Int)) = true := by simp; omega
    clear hq
    go_enter Tryd.func8, Tryd.ntmps8
    go_wp2_with fail
    refine (AW.out _ ((Ext.refl w).alloc _)).mono ?_
    rintro e w1 ⟨rfl, e1⟩
    go_wp2_with fail
    go_ret
    exact ⟨rfl, ((Ext.refl w).alloc _).trans e1⟩

set_option maxHeartbeats 4000000 in
theorem sealOne_main {A A' : Option Addr} {n c m d : Nat} {ks bs ts : List UInt8} {w : World} (hk : ks.length = 32) (h : Bs w A n c bs) (h' : Bs w A' m d ts) (hn : n ≤ 500) (hm : m ≤ 500) {tg : TypeId × Nat × Nat} (hG : Gl w tg) :
    Calls Tryd.prog 8 #[.agg (cellsOf ks).toArray, .slice A n c, .slice A' m d] w fun e w' => e = .returned (.bool true) ∧ Ext w w' := by
  have h1 := h.le
  have h2 := h.cap
  have h3 := h'.le
  have h4 := h'.cap
  have hl := h.len
  have hl' := h'.len
  have q1' : decide ((500 : Int) < (n : Int)) = false := by simp; omega
  have q2' : decide ((500 : Int) < (m : Int)) = false := by simp; omega
  have AW := Lib.hid (fun (W : World) (e : Ext w W) => awake5_calls (hG.kept e hG.lt))
  have CASE : Hid ((∃ er : Int, (er = 3 ∨ er = 4) ∧ ∀ W, Ext w W → Calls Tryd.prog 23 #[.agg (cellsOf ks).toArray, .slice A n c, .slice A' m d] W (RetBsE [] er W)) ∨ ∃ xs : List UInt8, xs.length ≤ 500 ∧ sealL ks bs xs = ts ∧ ∀ W, Ext w W → Calls Tryd.prog 23 #[.agg (cellsOf ks).toArray, .slice A n c, .slice A' m d] W (RetBsE xs 0 W)) := by
    by_cases hs : m < 32
    · exact .inl ⟨3, .inl rfl, fun W e => open_short (h.ext e) (h'.ext e) hs⟩
    · obtain ⟨q, hq⟩ : ∃ q, m = q + 32 := ⟨m - 32, by omega⟩
      by_cases hM : sealM ks bs (ts.take q) = ts.drop q
      · exact .inr ⟨sealT ks (ts.take q), by rw [sealT_len, List.length_take]; omega, sealOne_eq hM, fun W e => open_main (b := false) hk (h.ext e) (h'.ext e) hq (by omega) (by omega) (by simp [hM]) (hG.kept e hG.lt)⟩
      · exact .inl ⟨4, .inr rfl, fun W e => open_main (b := true) hk (h.ext e) (h'.ext e) hq (by omega) (by omega) (by simp [hM]) (hG.kept e hG.lt)⟩
  have CL : Hid (∀ (xs : List UInt8) (W : World) (A2 : Option Addr) (m2 c2 : Nat), m2 ≤ 500 → Ext w W → Bs W A n c bs → Bs W A2 m2 c2 xs → Calls Tryd.prog 22 #[.agg (cellsOf ks).toArray, .slice A n c, .slice A2 m2 c2] W (RetOwn (sealL ks bs xs) W)) := fun xs W A2 m2 c2 hm2 e b1 b2 => close_calls hk b1 b2 (by omega) (by omega) (hG.kept e hG.lt)
  clear hG
  have KS : (cellsOf ks).toArray.size = 32 := by simp [cellsOf_len, hk]
  have hal := key_alloc
  have hz0 := zeros32_size
  generalize zeros32 = Z at *
  have P0 : Hid (∀ s, Ext (w.alloc (Obj.cells (cellsOf ks).toArray 23)) s → Ky s w.heap.size ks ∧ Bs s A n c bs ∧ Bs s A' m d ts ∧ Ext w s) := fun s e => ⟨(Ky.boxed w hk).ext e, h.ext (((Ext.refl w).alloc _).trans e), h'.ext (((Ext.refl w).alloc _).trans e), ((Ext.refl w).alloc _).trans e⟩
  clear h h'
  go_enter Tryd.func8, Tryd.ntmps8
  go_wp2_with fail
  refine (AW.out _ ((Ext.refl w).alloc _)).mono ?_
  rintro e w1 ⟨rfl, e1⟩
  have P1 : Hid (∀ s, Ext w1 s → Ky s w.heap.size ks ∧ Bs s A n c bs ∧ Bs s A' m d ts ∧ Ext w s) := fun s e => P0.out s (e1.trans e)
  clear AW P0 e1
  have kk := Lib.hid (P1.out _ (Ext.refl _)).1
  go_wp2_with (refine wpList_exec rfl (exec_load_row rfl rfl kk.out.1 rfl rfl (by rw [KS]; rfl)) ?_; simp only [Act.put, List.setIfInBounds_toArray, List.set_cons_zero, List.set_cons_succ])
  rcases CASE.out with ⟨er, her, OP⟩ | ⟨xs, xl, hx, OP⟩
  · replace OP := Lib.hid OP
    replace her := Lib.hid her
    refine (OP.out _ (P1.out _ (Ext.refl _)).2.2.2).mono ?_
    rintro e w2 ⟨A2, n2, c2, rfl, b2, e2⟩
    obtain rfl : n2 = 0 := by rw [← b2.len]; rfl
    have x2 := Lib.hid (P1.out _ e2).2.2.2
    clear CASE OP CL P1 e2 b2
    rcases her.out with rfl | rfl
    · clear her
      go_wp2_with fail
      go_ret
      exact ⟨rfl, x2.out⟩
    · clear her
      go_wp2_with fail
      go_ret
      exact ⟨rfl, x2.out⟩
  · replace OP := Lib.hid OP
    refine (OP.out _ (P1.out _ (Ext.refl _)).2.2.2).mono ?_
    rintro e w2 ⟨A2, n2, c2, rfl, b2, e2⟩
    have n25 : n2 ≤ 500 := by rw [← b2.len]; exact xl
    have g1 := b2.le
    have g2 := b2.cap
    have P2 : Hid (∀ s, Ext w2 s → Ky s w.heap.size ks ∧ Bs s A n c bs ∧ Bs s A' m d ts ∧ Ext w s ∧ Bs s A2 n2 c2 xs) := fun s e => by
      obtain ⟨p1, p2, p3, p4⟩ := P1.out s (e2.trans e)
      exact ⟨p1, p2, p3, p4, b2.ext e⟩
    clear CASE OP P1 e2 b2 kk
    have C2 := Lib.hid (CL.out xs)
    rw [hx] at C2
    clear CL hx xl
    go_wp2_with fail
    refine wp_region_seq (R := Ext) Ext.refl (fun _ _ _ => Ext.trans) [0, 1, 2, 3, 4, 7, 8, 5, 6, 9, 10, 11] [5] [(0, 36, 256), (1, 37, 68719476736), (2, 38, 137438953488), (2, 39, 137438953476), (2, 40, 137438953984), (30, 41, 2061584302080), (34, 42, 2336462209024), (2, 43, 137438953480), (130, 44, 8933531975680), (322, 45, 22127671508992), (514, 46, 35321811042304), (2047, 7, 70368744177664)] (by kernel_rfl) (by kernel_rfl) (by kernel_rfl) rfl (by kernel_rfl) (by kernel_rfl) (fun _ _ d _ _ h => by cases d <;> exact h) ?_
    iterate 2 (first | (refine seq_read (fun _ => True) (fun _ _ => trivial) _ (v := ?_) rfl rfl (by rfl) ?_ ?_; rotate_left; (· intro w' hF; go_simp; (try with_reducible rfl)); simp only [Act.put, List.setIfInBounds_toArray, List.set_cons_zero, List.set_cons_succ]) | (refine seq_skip _ rfl rfl (by rfl) ?_; simp only [Act.put, List.setIfInBounds_toArray, List.set_cons_zero, List.set_cons_succ]))
    refine seq_read (fun w' => w'.heap[w.heap.size]? = some (.cells (cellsOf ks).toArray 23 (0, 0))) (fun w' e => (P2.out w' ((Ext.refl _).drew.trans e)).1.1) _ (v := .agg (cellsOf ks).toArray) rfl rfl (by rfl) (fun w' hF => exec_load_row rfl rfl hF rfl rfl (by rw [KS]; rfl)) ?_
    simp only [Act.put, List.setIfInBounds_toArray, List.set_cons_zero, List.set_cons_succ]
    iterate 4 (first | (refine seq_read _ (fun w' e => conv_bs (P2.out w' ((Ext.refl _).drew.trans e)).2.2.1) _ (v := ?_) rfl rfl (by rfl) ?_ ?_; rotate_left; (· intro w' hF; go_simp; (try with_reducible rfl)); simp only [Act.put, List.setIfInBounds_toArray, List.set_cons_zero, List.set_cons_succ]) | (refine seq_skip _ rfl rfl (by rfl) ?_; simp only [Act.put, List.setIfInBounds_toArray, List.set_cons_zero, List.set_cons_succ]))
    refine seq_do _ rfl rfl (by rfl) (fun K1 hK1 => ?_)
    go_simp
    refine (C2.out _ _ _ _ n25 (P2.out _ (Ext.refl _).drew).2.2.2.1 (P2.out _ (Ext.refl _).drew).2.1 (P2.out _ (Ext.refl _).drew).2.2.2.2).mono ?_
    rintro e w3 ⟨A3, n3, c3, rfl, o3, e3⟩
    refine hK1.out _ _ e3 ?_
    clear hK1 K1
    try simp only [Act.put, List.setIfInBounds_toArray, List.set_cons_zero, List.set_cons_succ]
    have x3 := Lib.hid (P2.out _ ((Ext.refl _).drew.trans e3)).2.2.2.1
    have b3 := o3.bs
    repeat (first | (refine seq_read _ (fun w' e => conv_bs (b3.ext e)) _ (v := ?_) rfl rfl (by rfl) ?_ ?_; rotate_left; (· intro w' hF; go_simp; (try with_reducible rfl)); simp only [Act.put, List.setIfInBounds_toArray, List.set_cons_zero, List.set_cons_succ]) | (refine seq_skip _ rfl rfl (by rfl) ?_; simp only [Act.put, List.setIfInBounds_toArray, List.set_cons_zero, List.set_cons_succ]))
    refine seq_done ?_
    clear b3 o3 P2 e3
    go_wp2_with fail
    go_ret
    exact ⟨rfl, x3.out⟩

theorem sealOne_calls {A A' : Option Addr} {n c m d : Nat} {ks bs ts : List UInt8} {w : World} (hk : ks.length = 32) (h : Bs w A n c bs) (h' : Bs w A' m d ts) {tg : TypeId × Nat × Nat} (hG : Gl w tg) :
    Calls Tryd.prog 8 #[.agg (cellsOf ks).toArray, .slice A n c, .slice A' m d] w fun e w' => e = .returned (.bool true) ∧ Ext w w' := by
  by_cases hq : 500 < n ∨ 500 < m
  · exact sealOne_out h h' hq hG
  · exact sealOne_main hk h h' (by omega) (by omega) hG
end Go.Proofs.YthdjojindijmnaaDoor
