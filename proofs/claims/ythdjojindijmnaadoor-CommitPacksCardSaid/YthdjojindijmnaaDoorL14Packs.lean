/-
  CommitPacks: an opening and a text are unpacked as they were packed.
-/
import Derived.Test.YthdjojindijmnaaDoorAwake14
import Derived.Test.YthdjojindijmnaaDoorRefUnp
namespace Go.Proofs.YthdjojindijmnaaDoor
open Go.ChangeShapes Go.WideShapes Go.ChangeAt Go.RowKit Go.Deep
set_option maxRecDepth 100000

theorem unCat {bs : List UInt8} (h : ¬ bs.length < 32) : unK bs ++ unT bs = bs := by
  unfold unK unT
  rw [if_neg h, if_neg h, List.take_append_drop]

set_option maxHeartbeats 1000000 in
theorem commitPacks_out {A A' : Option Addr} {n c m d : Nat} {ks ts bs : List UInt8} {w : World} (h : Bs w A n c ts) (h' : Bs w A' m d bs) (hq : 500 < n ∨ 500 < m) {tg : TypeId × Nat × Nat} (hG : Gl w tg) :
    Calls Tryd.prog 6 #[.agg (cellsOf ks).toArray, .slice A n c, .slice A' m d] w fun e w' => e = .returned (.bool true) ∧ Ext w w' := by
  have h1 := h.le
  have h2 := h.cap
  have h3 := h'.le
  have h4 := h'.cap
  have AW := Lib.hid (fun (W : World) (e : Ext w W) => awake14_calls (hG.kept e hG.lt))
  clear hG
  generalize (cellsOf ks).toArray = T
  by_cases q1 : 500 < n
  · have q1' : decide ((500 : Int) < (n : Int)) = true := by simp; omega
    clear hq
    go_enter Tryd.func6, Tryd.ntmps6
    go_wp2_with fail
    refine (AW.out _ ((Ext.refl w).alloc _)).mono ?_
    rintro e w1 ⟨rfl, e1⟩
    go_wp2_with fail
    go_ret
    exact ⟨rfl, ((Ext.refl w).alloc _).trans e1⟩
  · have q1' : decide ((500 : Int) < (n : Int)) = false := by simp; omega
    have q2' : decide ((500 : Int) < (m : Int)) = true := by simp; omega
    clear hq
    go_enter Tryd.func6, Tryd.ntmps6
    go_wp2_with fail
    refine (AW.out _ ((Ext.refl w).alloc _)).mono ?_
    rintro e w1 ⟨rfl, e1⟩
    go_wp2_with fail
    go_ret
    exact ⟨rfl, ((Ext.refl w).alloc _).trans e1⟩

set_option maxHeartbeats 4000000 in
theorem commitPacks_main {A A' : Option Addr} {n c m d : Nat} {ks ts bs : List UInt8} {w : World} (hk : ks.length = 32) (h : Bs w A n c ts) (h' : Bs w A' m d bs) (hn : n ≤ 500) (hm : m ≤ 500) {tg : TypeId × Nat × Nat} (hG : Gl w tg) :
    Calls Tryd.prog 6 #[.agg (cellsOf ks).toArray, .slice A n c, .slice A' m d] w fun e w' => e = .returned (.bool true) ∧ Ext w w' := by
  have h1 := h.le
  have h2 := h.cap
  have h3 := h'.le
  have h4 := h'.cap
  have hl := h.len
  have hl' := h'.len
  have q1' : decide ((500 : Int) < (n : Int)) = false := by simp; omega
  have q2' : decide ((500 : Int) < (m : Int)) = false := by simp; omega
  have AW := Lib.hid (fun (W : World) (e : Ext w W) => awake14_calls (hG.kept e hG.lt))
  have PACK : Hid (∀ W, Ext w W → Calls Tryd.prog 18 #[.agg (cellsOf ks).toArray, .slice A n c] W (RetBs (ks ++ ts) W)) := fun W e => pack_calls hk (h.ext e) (by omega)
  have UNP : Hid (∀ (W : World) (A1 : Option Addr) (n1 c1 : Nat), n1 = n + 32 → Bs W A1 n1 c1 (ks ++ ts) → Calls Tryd.prog 19 #[.slice A1 n1 c1] W (RetUn ks ts 0 W)) := fun W A1 n1 c1 hn1 b => by
    have := unpack_calls b (by omega) (by omega)
    rwa [List.take_left' hk, List.drop_left' hk] at this
  have UB : Hid (∀ W, Ext w W → Calls Tryd.prog 19 #[.slice A' m d] W (RetUn (unK bs) (unT bs) (unE bs) W)) := fun W e => unpackAll_calls (h'.ext e) (by omega)
  have RB : Hid (∀ W, Ext w W → Calls Tryd.prog 20 #[.slice A' m d] W (RetUn (unK bs) (unT bs) (unE bs) W)) := fun W e => refUnpAll_calls (h'.ext e) (by omega)
  have LM := unK_len bs
  have LU := Nat.le_trans (unT_len bs) (show bs.length ≤ 500 by omega)
  have CASE : Hid ((unE bs = 3) ∨ (unE bs = 0 ∧ unK bs ++ unT bs = bs)) := by
    unfold Hid
    by_cases q : bs.length < 32
    · exact .inl (by unfold unE; rw [if_pos q])
    · exact .inr ⟨by unfold unE; rw [if_neg q], unCat q⟩
  clear hG
  generalize unK bs = M at *
  generalize unT bs = U at *
  generalize unE bs = F at *
  obtain ⟨u, hu⟩ : ∃ u, U.length = u := ⟨_, rfl⟩
  have hu5 : u ≤ 500 := by omega
  replace hu := Lib.hid hu
  clear LU
  have PK2 : Hid (∀ (W : World) (A1 : Option Addr) (c1 : Nat), Bs W A1 u c1 U → Calls Tryd.prog 18 #[.agg (cellsOf M).toArray, .slice A1 u c1] W (RetBs (M ++ U) W)) := fun W A1 c1 b => pack_calls LM b (by omega)
  have hal := key_alloc
  have hz0 := zeros32_size
  generalize zeros32 = Z at *
  have KS : (cellsOf ks).toArray.size = 32 := by simp [cellsOf_len, hk]
  have K1 := cellsOf_one ks
  have MS : (cellsOf M).toArray.size = 32 := by simp [cellsOf_len, LM]
  have M1 := cellsOf_one M
  have P0 : Hid (∀ w', Ext (w.alloc (Obj.cells (cellsOf ks).toArray 23)) w' → Ky w' w.heap.size ks ∧ Bs w' A n c ts ∧ Bs w' A' m d bs ∧ Ext w w') := fun w' e => ⟨(Ky.boxed w hk).ext e, h.ext (((Ext.refl w).alloc _).trans e), h'.ext (((Ext.refl w).alloc _).trans e), ((Ext.refl w).alloc _).trans e⟩
  clear h h'
  go_enter Tryd.func6, Tryd.ntmps6
  go_wp2_with fail
  refine (AW.out _ ((Ext.refl w).alloc _)).mono ?_
  rintro e w1 ⟨rfl, e1⟩
  have P1 : Hid (∀ s, Ext w1 s → Ky s w.heap.size ks ∧ Bs s A n c ts ∧ Bs s A' m d bs ∧ Ext w s) := fun s e => P0.out s (e1.trans e)
  clear AW P0 e1
  have kk := Lib.hid (P1.out _ (Ext.refl _)).1
  go_wp2_with (refine wpList_exec rfl (exec_load_row rfl rfl kk.out.1 rfl rfl (by rw [KS]; rfl)) ?_; simp only [Act.put, List.setIfInBounds_toArray, List.set_cons_zero, List.set_cons_succ])
  refine (PACK.out _ (P1.out _ (Ext.refl _)).2.2.2).mono ?_
  rintro e w2 ⟨A1, n1, c1, rfl, b1, e2⟩
  have hn1 : n1 = n + 32 := by rw [← b1.len, List.length_append, hk, hl, Nat.add_comm]
  have u1 : n1 ≤ 532 := by omega
  have tq : Hid (decide ((n1 : Int) = (n : Int) + 32) = true) := decide_eq_true (by omega)
  replace hn1 := Lib.hid hn1
  have g1 := b1.le
  have g2 := b1.cap
  have P2 : Hid (∀ s, Ext w2 s → Ky s w.heap.size ks ∧ Bs s A n c ts ∧ Bs s A' m d bs ∧ Ext w s ∧ Bs s A1 n1 c1 (ks ++ ts)) := fun s e => by
    have p := P1.out s (e2.trans e)
    exact ⟨p.1, p.2.1, p.2.2.1, p.2.2.2, b1.ext e⟩
  clear P1 e2 b1 kk PACK
  go_wp2_with fail
  refine (UNP.out _ _ _ _ hn1.out (P2.out _ (Ext.refl _)).2.2.2.2).mono ?_
  rintro e v ⟨A2, n2, c2, rfl, b2, e3⟩
  obtain rfl : n2 = n := by rw [← b2.len, hl]
  have g3 := b2.le
  have g4 := b2.cap
  have a1 : Hid ((v.alloc (Obj.cells Z 23)).heap[v.heap.size]? = some (.cells Z 23 (0, 0))) := heap_alloc_new _ _
  have x1 : Ext v ((v.alloc (Obj.cells Z 23)).setRow v.heap.size (cellsOf ks).toArray) := below_setRow ((Ext.refl v).alloc _) (Nat.le_refl _) _
  go_upto_region 6 with (refine wpList_store_row rfl 23 _ _ rfl v.heap.size (cellsOf ks).toArray rfl rfl 23 Z a1.out (by rw [KS]; rfl) (by rw [KS]; exact hz0) K1 ?_; simp only [Act.put, List.setIfInBounds_toArray, List.set_cons_zero, List.set_cons_succ])
  obtain ⟨k1, hk1⟩ : ∃ g, g = v.heap.size := ⟨_, rfl⟩
  refine wp_gen (fun W => ∀ s, Ext W s → Ky s w.heap.size ks ∧ Bs s A n2 c ts ∧ Bs s A' m d bs ∧ Ext w s ∧ Bs s A1 n1 c1 (ks ++ ts) ∧ Ky s k1 ks ∧ Bs s A2 n2 c2 ts) (fun s e => by
    obtain ⟨p1, p2, p3, p4, p5⟩ := P2.out s (e3.trans (x1.trans e))
    exact ⟨p1, p2, p3, p4, p5, (show Ky _ k1 ks from ⟨by rw [hk1]; exact setRow_heap _ _ _ _ _ _ a1.out, hk⟩).ext e, b2.ext (x1.trans e)⟩) ?_
  rw [← hk1]
  clear hk1 a1 x1 e3 b2 P2 UNP
  rintro w3 P3
  replace P3 := Lib.hid P3
  go_wp2_with fail
  refine (UB.out _ (P3.out _ (Ext.refl _)).2.2.2.1).mono ?_
  rintro e v ⟨A3, n3, c3, rfl, b2, e3⟩
  obtain rfl : n3 = u := by rw [← b2.len, hu.out]
  have g5 := b2.le
  have g6 := b2.cap
  have a1 : Hid ((v.alloc (Obj.cells Z 23)).heap[v.heap.size]? = some (.cells Z 23 (0, 0))) := heap_alloc_new _ _
  have x1 : Ext v ((v.alloc (Obj.cells Z 23)).setRow v.heap.size (cellsOf M).toArray) := below_setRow ((Ext.refl v).alloc _) (Nat.le_refl _) _
  go_upto_region 7 with (refine wpList_store_row rfl 23 _ _ rfl v.heap.size (cellsOf M).toArray rfl rfl 23 Z a1.out (by rw [MS]; rfl) (by rw [MS]; exact hz0) M1 ?_; simp only [Act.put, List.setIfInBounds_toArray, List.set_cons_zero, List.set_cons_succ])
  obtain ⟨k2, hk1⟩ : ∃ g, g = v.heap.size := ⟨_, rfl⟩
  refine wp_gen (fun W => ∀ s, Ext W s → Ky s w.heap.size ks ∧ Bs s A n2 c ts ∧ Bs s A' m d bs ∧ Ext w s ∧ Bs s A1 n1 c1 (ks ++ ts) ∧ Ky s k1 ks ∧ Bs s A2 n2 c2 ts ∧ Ky s k2 M ∧ Bs s A3 n3 c3 U) (fun s e => by
    obtain ⟨p1, p2, p3, p4, p5, p6, p7⟩ := P3.out s (e3.trans (x1.trans e))
    exact ⟨p1, p2, p3, p4, p5, p6, p7, (show Ky _ k2 M from ⟨by rw [hk1]; exact setRow_heap _ _ _ _ _ _ a1.out, LM⟩).ext e, b2.ext (x1.trans e)⟩) ?_
  rw [← hk1]
  clear hk1 a1 x1 e3 b2 P3 UB
  rintro w4 P4
  replace P4 := Lib.hid P4
  go_wp2_with fail
  refine (RB.out _ (P4.out _ (Ext.refl _)).2.2.2.1).mono ?_
  rintro e v ⟨A4, n4, c4, rfl, b2, e3⟩
  obtain rfl : n4 = n3 := by rw [← b2.len, hu.out]
  have g7 := b2.le
  have g8 := b2.cap
  have a1 : Hid ((v.alloc (Obj.cells Z 23)).heap[v.heap.size]? = some (.cells Z 23 (0, 0))) := heap_alloc_new _ _
  have x1 : Ext v ((v.alloc (Obj.cells Z 23)).setRow v.heap.size (cellsOf M).toArray) := below_setRow ((Ext.refl v).alloc _) (Nat.le_refl _) _
  go_upto_region 8 with (refine wpList_store_row rfl 23 _ _ rfl v.heap.size (cellsOf M).toArray rfl rfl 23 Z a1.out (by rw [MS]; rfl) (by rw [MS]; exact hz0) M1 ?_; simp only [Act.put, List.setIfInBounds_toArray, List.set_cons_zero, List.set_cons_succ])
  obtain ⟨k3, hk1⟩ : ∃ g, g = v.heap.size := ⟨_, rfl⟩
  refine wp_gen (fun W => ∀ s, Ext W s → Ky s w.heap.size ks ∧ Bs s A n2 c ts ∧ Bs s A' m d bs ∧ Ext w s ∧ Bs s A1 n1 c1 (ks ++ ts) ∧ Ky s k1 ks ∧ Bs s A2 n2 c2 ts ∧ Ky s k2 M ∧ Bs s A3 n4 c3 U ∧ Ky s k3 M ∧ Bs s A4 n4 c4 U) (fun s e => by
    obtain ⟨p1, p2, p3, p4, p5, p6, p7, p8, p9⟩ := P4.out s (e3.trans (x1.trans e))
    exact ⟨p1, p2, p3, p4, p5, p6, p7, p8, p9, (show Ky _ k3 M from ⟨by rw [hk1]; exact setRow_heap _ _ _ _ _ _ a1.out, LM⟩).ext e, b2.ext (x1.trans e)⟩) ?_
  rw [← hk1]
  clear hk1 a1 x1 e3 b2 P4 RB
  rintro w5 P5
  replace P5 := Lib.hid P5
  rcases CASE.out with rfl | ⟨rfl, hcat⟩
  · go_wp2_with fail
    refine wp_region_seq (R := Ext) Ext.refl (fun _ _ _ => Ext.trans) [0, 1, 2, 3, 4, 7, 8, 5, 6, 9, 10] [5] [(0, 50, 32768), (1, 51, 1125899906842624), (2, 52, 2251799813685248), (4, 53, 4503599627378688), (4, 54, 4503599627386880), (28, 55, 31525197391593472), (36, 56, 40532396646334464), (4, 57, 4503599627370504), (132, 58, 148618787703226368), (324, 59, 364791569817010176), (516, 60, 580964351930793984)] (by kernel_rfl) (by kernel_rfl) (by kernel_rfl) rfl (by kernel_rfl) (by kernel_rfl) (fun _ _ d _ _ h => by cases d <;> exact h) ?_
    repeat (first | (refine seq_read (fun _ => True) (fun _ _ => trivial) _ (v := ?_) rfl rfl (by rfl) ?_ ?_; rotate_left; (· intro w' hF; go_simp; (try with_reducible rfl)); simp only [Act.put, List.setIfInBounds_toArray, List.set_cons_zero, List.set_cons_succ]) | (refine seq_skip _ rfl rfl (by rfl) ?_; simp only [Act.put, List.setIfInBounds_toArray, List.set_cons_zero, List.set_cons_succ]))
    refine seq_do_skip Ext.refl _ rfl rfl (by rfl) ?_
    simp only [Act.put, List.setIfInBounds_toArray, List.set_cons_zero, List.set_cons_succ]
    repeat (first | (refine seq_read (fun _ => True) (fun _ _ => trivial) _ (v := ?_) rfl rfl (by rfl) ?_ ?_; rotate_left; (· intro w' hF; go_simp; (try with_reducible rfl)); simp only [Act.put, List.setIfInBounds_toArray, List.set_cons_zero, List.set_cons_succ]) | (refine seq_skip _ rfl rfl (by rfl) ?_; simp only [Act.put, List.setIfInBounds_toArray, List.set_cons_zero, List.set_cons_succ]))
    refine seq_done ?_
    go_upto_region 10 with fail
    clear CASE PK2
    have tq' := tq.out
    have tq2 : ((n1 : Int) == (n2 : Int) + 32) = true := tq'
    clear tq hn1
    obtain ⟨p1, p2, p3, p4, p5, p6, p7, p8, p9, p10, p11⟩ := P5.out _ (Ext.refl _).drew
    clear P5
    have cv1 := conv_bs p2
    have cv2 := conv_bs p7
    have cv3 := conv_bs p9
    have cv4 := conv_bs p11
    replace p1 := Lib.hid p1
    replace p6 := Lib.hid p6
    replace p8 := Lib.hid p8
    replace p10 := Lib.hid p10
    replace p4 := Lib.hid p4
    clear p2 p3 p5 p7 p9 p11
    go_wp2_with (first
      | (refine wpList_exec rfl (exec_load_row rfl rfl p1.out.1 rfl rfl (by rw [KS]; rfl)) ?_; simp only [Act.put, List.setIfInBounds_toArray, List.set_cons_zero, List.set_cons_succ])
      | (refine wpList_exec rfl (exec_load_row rfl rfl p6.out.1 rfl rfl (by rw [KS]; rfl)) ?_; simp only [Act.put, List.setIfInBounds_toArray, List.set_cons_zero, List.set_cons_succ])
      | (refine wpList_exec rfl (exec_load_row rfl rfl p8.out.1 rfl rfl (by rw [MS]; rfl)) ?_; simp only [Act.put, List.setIfInBounds_toArray, List.set_cons_zero, List.set_cons_succ])
      | (refine wpList_exec rfl (exec_load_row rfl rfl p10.out.1 rfl rfl (by rw [MS]; rfl)) ?_; simp only [Act.put, List.setIfInBounds_toArray, List.set_cons_zero, List.set_cons_succ])
      | (refine wpList_exec rfl (exec_eql_keyB (xs := ks) (ys := ks) (decide_eq_true rfl) hk hk rfl rfl rfl) ?_; simp only [Act.put, List.setIfInBounds_toArray, List.set_cons_zero, List.set_cons_succ])
      | (refine wpList_exec rfl (exec_eql_keyB (xs := M) (ys := M) (decide_eq_true rfl) LM LM rfl rfl rfl) ?_; simp only [Act.put, List.setIfInBounds_toArray, List.set_cons_zero, List.set_cons_succ]))
    go_ret
    exact ⟨rfl, p4.out⟩
  · replace hcat := Lib.hid hcat
    go_wp2_with fail
    refine wp_region_seq (R := Ext) Ext.refl (fun _ _ _ => Ext.trans) [0, 1, 2, 3, 4, 7, 8, 5, 6, 9, 10] [5] [(0, 50, 32768), (1, 51, 1125899906842624), (2, 52, 2251799813685248), (4, 53, 4503599627378688), (4, 54, 4503599627386880), (28, 55, 31525197391593472), (36, 56, 40532396646334464), (4, 57, 4503599627370504), (132, 58, 148618787703226368), (324, 59, 364791569817010176), (516, 60, 580964351930793984)] (by kernel_rfl) (by kernel_rfl) (by kernel_rfl) rfl (by kernel_rfl) (by kernel_rfl) (fun _ _ d _ _ h => by cases d <;> exact h) ?_
    iterate 3 (first | (refine seq_read (fun _ => True) (fun _ _ => trivial) _ (v := ?_) rfl rfl (by rfl) ?_ ?_; rotate_left; (· intro w' hF; go_simp; (try with_reducible rfl)); simp only [Act.put, List.setIfInBounds_toArray, List.set_cons_zero, List.set_cons_succ]) | (refine seq_skip _ rfl rfl (by rfl) ?_; simp only [Act.put, List.setIfInBounds_toArray, List.set_cons_zero, List.set_cons_succ]))
    refine seq_read (fun w' => w'.heap[k2]? = some (.cells (cellsOf M).toArray 23 (0, 0))) (fun w' e => (P5.out w' ((Ext.refl _).drew.trans e)).2.2.2.2.2.2.2.1.1) _ (v := .agg (cellsOf M).toArray) rfl rfl (by rfl) (fun w' hF => exec_load_row rfl rfl hF rfl rfl (by rw [MS]; rfl)) ?_
    simp only [Act.put, List.setIfInBounds_toArray, List.set_cons_zero, List.set_cons_succ]
    iterate 3 (first | (refine seq_read _ (fun w' e => conv_bs (P5.out w' ((Ext.refl _).drew.trans e)).2.2.1) _ (v := ?_) rfl rfl (by rfl) ?_ ?_; rotate_left; (· intro w' hF; go_simp; (try with_reducible rfl)); simp only [Act.put, List.setIfInBounds_toArray, List.set_cons_zero, List.set_cons_succ]) | (refine seq_skip _ rfl rfl (by rfl) ?_; simp only [Act.put, List.setIfInBounds_toArray, List.set_cons_zero, List.set_cons_succ]))
    refine seq_do _ rfl rfl (by rfl) (fun K1 hK1 => ?_)
    go_simp
    refine (PK2.out _ _ _ (P5.out _ (Ext.refl _).drew).2.2.2.2.2.2.2.2.1).mono ?_
    rintro e w6 ⟨A5, n5, c5, rfl, b5, e5⟩
    rw [hcat.out] at b5
    refine hK1.out _ _ e5 ?_
    clear hK1 K1
    try simp only [Act.put, List.setIfInBounds_toArray, List.set_cons_zero, List.set_cons_succ]
    repeat (first | (refine seq_read _ (fun w' e => conv_bs (b5.ext e)) _ (v := ?_) rfl rfl (by rfl) ?_ ?_; rotate_left; (· intro w' hF; go_simp; (try with_reducible rfl)); simp only [Act.put, List.setIfInBounds_toArray, List.set_cons_zero, List.set_cons_succ]) | (refine seq_skip _ rfl rfl (by rfl) ?_; simp only [Act.put, List.setIfInBounds_toArray, List.set_cons_zero, List.set_cons_succ]))
    refine seq_done ?_
    clear b5
    have e6 := (Ext.refl w5).drew.trans e5
    clear e5
    go_upto_region 10 with fail
    clear CASE PK2
    have tq' := tq.out
    have tq2 : ((n1 : Int) == (n2 : Int) + 32) = true := tq'
    clear tq hn1
    obtain ⟨p1, p2, p3, p4, p5, p6, p7, p8, p9, p10, p11⟩ := P5.out _ e6
    clear P5
    have cv1 := conv_bs p2
    have cv2 := conv_bs p7
    have cv3 := conv_bs p9
    have cv4 := conv_bs p11
    replace p1 := Lib.hid p1
    replace p6 := Lib.hid p6
    replace p8 := Lib.hid p8
    replace p10 := Lib.hid p10
    replace p4 := Lib.hid p4
    clear p2 p3 p5 p7 p9 p11
    go_wp2_with (first
      | (refine wpList_exec rfl (exec_load_row rfl rfl p1.out.1 rfl rfl (by rw [KS]; rfl)) ?_; simp only [Act.put, List.setIfInBounds_toArray, List.set_cons_zero, List.set_cons_succ])
      | (refine wpList_exec rfl (exec_load_row rfl rfl p6.out.1 rfl rfl (by rw [KS]; rfl)) ?_; simp only [Act.put, List.setIfInBounds_toArray, List.set_cons_zero, List.set_cons_succ])
      | (refine wpList_exec rfl (exec_load_row rfl rfl p8.out.1 rfl rfl (by rw [MS]; rfl)) ?_; simp only [Act.put, List.setIfInBounds_toArray, List.set_cons_zero, List.set_cons_succ])
      | (refine wpList_exec rfl (exec_load_row rfl rfl p10.out.1 rfl rfl (by rw [MS]; rfl)) ?_; simp only [Act.put, List.setIfInBounds_toArray, List.set_cons_zero, List.set_cons_succ])
      | (refine wpList_exec rfl (exec_eql_keyB (xs := ks) (ys := ks) (decide_eq_true rfl) hk hk rfl rfl rfl) ?_; simp only [Act.put, List.setIfInBounds_toArray, List.set_cons_zero, List.set_cons_succ])
      | (refine wpList_exec rfl (exec_eql_keyB (xs := M) (ys := M) (decide_eq_true rfl) LM LM rfl rfl rfl) ?_; simp only [Act.put, List.setIfInBounds_toArray, List.set_cons_zero, List.set_cons_succ]))
    go_ret
    exact ⟨rfl, p4.out⟩

theorem commitPacks_calls {A A' : Option Addr} {n c m d : Nat} {ks ts bs : List UInt8} {w : World} (hk : ks.length = 32) (h : Bs w A n c ts) (h' : Bs w A' m d bs) {tg : TypeId × Nat × Nat} (hG : Gl w tg) :
    Calls Tryd.prog 6 #[.agg (cellsOf ks).toArray, .slice A n c, .slice A' m d] w fun e w' => e = .returned (.bool true) ∧ Ext w w' := by
  by_cases hq : 500 < n ∨ 500 < m
  · exact commitPacks_out h h' hq hG
  · exact commitPacks_main hk h h' (by omega) (by omega) hG
end Go.Proofs.YthdjojindijmnaaDoor
