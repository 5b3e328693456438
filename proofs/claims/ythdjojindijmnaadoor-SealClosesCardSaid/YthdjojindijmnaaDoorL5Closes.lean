import Derived.Test.YthdjojindijmnaaDoorPkG
import Derived.Test.YthdjojindijmnaaDoorSeqT
import Derived.Test.YthdjojindijmnaaDoorR5Close
/-
  SealCloses: any bytes, closed.
-/
namespace Go.Proofs.YthdjojindijmnaaDoor
open Go.ChangeShapes Go.WideShapes Go.ChangeAt Go.RowKit Go.Deep
set_option maxRecDepth 100000

set_option maxHeartbeats 1000000 in
theorem sealCloses_out {A A' : Option Addr} {n c m d : Nat} {ks bs ts : List UInt8} {w : World} (h : Bs w A n c bs) (h' : Bs w A' m d ts) (hq : 500 < n ∨ 500 < m) {tg : TypeId × Nat × Nat} (hG : Gl w tg) :
    Calls Tryd.prog 10 #[.agg (cellsOf ks).toArray, .slice A n c, .slice A' m d] w fun e w' => e = .returned (.bool true) ∧ Ext w w' := by
  have h1 := h.le
  have h2 := h.cap
  have h3 := h'.le
  have h4 := h'.cap
  have AW := Lib.hid (fun (W : World) (e : Ext w W) => awake5_calls (hG.kept e hG.lt))
  clear hG
  generalize (cellsOf ks).toArray = T
  by_cases q1 : 500 < n
  · have q1' : decide ((500 : Int) < (n : Int)) = true := by simp; omega
    clear hq
    go_enter Tryd.func10, Tryd.ntmps10
    go_wp2_with fail
    refine (AW.out _ ((Ext.refl w).alloc _)).mono ?_
    rintro e w1 ⟨rfl, e1⟩
    go_wp2_with fail
    go_ret
    exact ⟨rfl, ((Ext.refl w).alloc _).trans e1⟩
  · have q1' : decide ((500 : Int) < (n : Int)) = false := by simp; omega
    have q2' : decide ((500 : Int) < (m : Int)) = true := by simp; omega
    clear hq
    go_enter Tryd.func10, Tryd.ntmps10
    go_wp2_with fail
    refine (AW.out _ ((Ext.refl w).alloc _)).mono ?_
    rintro e w1 ⟨rfl, e1⟩
    go_wp2_with fail
    go_ret
    exact ⟨rfl, ((Ext.refl w).alloc _).trans e1⟩

set_option maxHeartbeats 4000000 in
theorem sealCloses_main {A A' : Option Addr} {n c m d : Nat} {ks bs ts : List UInt8} {w : World} (hk : ks.length = 32) (h : Bs w A n c bs) (h' : Bs w A' m d ts) (hn : n ≤ 500) (hm : m ≤ 500) {tg : TypeId × Nat × Nat} (hG : Gl w tg) :
    Calls Tryd.prog 10 #[.agg (cellsOf ks).toArray, .slice A n c, .slice A' m d] w fun e w' => e = .returned (.bool true) ∧ Ext w w' := by
  have h1 := h.le
  have h2 := h.cap
  have h3 := h'.le
  have h4 := h'.cap
  have hl := h.len
  have hl' := h'.len
  have q1' : decide ((500 : Int) < (n : Int)) = false := by simp; omega
  have q2' : decide ((500 : Int) < (m : Int)) = false := by simp; omega
  have AW := Lib.hid (fun (W : World) (e : Ext w W) => awake5_calls (hG.kept e hG.lt))
  have CL : Hid (∀ (W : World), Ext w W → Calls Tryd.prog 22 #[.agg (cellsOf ks).toArray, .slice A n c, .slice A' m d] W (RetOwn (sealL ks bs ts) W)) := fun W e => close_calls hk (h.ext e) (h'.ext e) (by omega) (by omega) (hG.kept e hG.lt)
  have RC : Hid (∀ (W : World), Ext w W → Calls Tryd.prog 25 #[.agg (cellsOf ks).toArray, .slice A n c, .slice A' m d] W (RetBs (sealL ks bs ts) W)) := fun W e => r5close_calls hk (h.ext e) (h'.ext e) (by omega) (by omega)
  have TAG : Hid (∀ (W : World) (A1 : Option Addr) (n1 c1 : Nat), n1 = m + 32 → Bs W A1 n1 c1 (sealL ks bs ts) → Calls Tryd.prog 24 #[.slice A1 n1 c1] W (RetTag ((sealL ks bs ts).drop m) 0 W)) := fun W A1 n1 c1 e b => tag_calls b e (by omega)
  have CLL := (sealL_len ks bs ts).trans (congrArg (· + 32) hl')
  clear hG
  have TL : ((sealL ks bs ts).drop m).length = 32 := by rw [List.length_drop, CLL]; omega
  obtain ⟨T, hT⟩ : ∃ T, T = (sealL ks bs ts).drop m := ⟨_, rfl⟩
  rw [← hT] at TAG TL
  generalize sealL ks bs ts = C at *
  replace CLL := Lib.hid CLL
  replace hT := Lib.hid hT
  have TS : (cellsOf T).toArray.size = 32 := by simp [cellsOf_len, TL]
  have T1 := cellsOf_one T
  have KS : (cellsOf ks).toArray.size = 32 := by simp [cellsOf_len, hk]
  have hal := key_alloc
  have hz0 := zeros32_size
  generalize zeros32 = Z at *
  have P0 : Hid (∀ s, Ext (w.alloc (Obj.cells (cellsOf ks).toArray 23)) s → Ky s w.heap.size ks ∧ Bs s A n c bs ∧ Bs s A' m d ts ∧ Ext w s) := fun s e => ⟨(Ky.boxed w hk).ext e, h.ext (((Ext.refl w).alloc _).trans e), h'.ext (((Ext.refl w).alloc _).trans e), ((Ext.refl w).alloc _).trans e⟩
  clear h h'
  go_enter Tryd.func10, Tryd.ntmps10
  go_wp2_with fail
  refine (AW.out _ ((Ext.refl w).alloc _)).mono ?_
  rintro e w1 ⟨rfl, e1⟩
  have P1 : Hid (∀ s, Ext w1 s → Ky s w.heap.size ks ∧ Bs s A n c bs ∧ Bs s A' m d ts ∧ Ext w s) := fun s e => P0.out s (e1.trans e)
  clear AW P0 e1
  have kk := Lib.hid (P1.out _ (Ext.refl _)).1
  go_wp2_with (refine wpList_exec rfl (exec_load_row rfl rfl kk.out.1 rfl rfl (by rw [KS]; rfl)) ?_; simp only [Act.put, List.setIfInBounds_toArray, List.set_cons_zero, List.set_cons_succ])
  refine (CL.out _ (P1.out _ (Ext.refl _)).2.2.2).mono ?_
  rintro e w2 ⟨A1, n1, c1, rfl, o1, e2⟩
  have hn1 : n1 = m + 32 := by rw [← o1.len, CLL.out]
  have u1 : n1 ≤ 532 := by omega
  have mn : m ≤ n1 := by omega
  have nm : Hid (n1 - m = 32) := by unfold Hid; omega
  have hd : (n1 : Int) - 32 = (m : Int) := by omega
  have hw : IntKind.i64.wrap (m : Int) = (m : Int) := IntWalk.i64_in _ (by omega)
  have t32 : decide ((n1 : Int) < 32) = false := decide_eq_false (by omega)
  replace hn1 := Lib.hid hn1
  have o1b := o1.bs
  have g1 := o1b.le
  have g2 := o1b.cap
  have P2 : Hid (∀ s, Ext w2 s → Ky s w.heap.size ks ∧ Ext w s ∧ Bs s A1 n1 c1 C) := fun s e => by
    obtain ⟨p1, p2, p3, p4⟩ := P1.out s (e2.trans e)
    exact ⟨p1, p4, o1b.ext e⟩
  clear P1 e2 o1 o1b kk CL
  go_wp2_with fail
  refine (TAG.out _ _ _ _ hn1.out (P2.out _ (Ext.refl _)).2.2).mono ?_
  rintro e v ⟨rfl, e1⟩
  have a1 : Hid ((v.alloc (Obj.cells Z 23)).heap[v.heap.size]? = some (.cells Z 23 (0, 0))) := heap_alloc_new _ _
  have x1 : Ext v ((v.alloc (Obj.cells Z 23)).setRow v.heap.size (cellsOf T).toArray) := below_setRow ((Ext.refl v).alloc _) (Nat.le_refl _) _
  go_upto_region 8 with (refine wpList_store_row rfl 23 _ _ rfl v.heap.size (cellsOf T).toArray rfl rfl 23 Z a1.out (by rw [TS]; rfl) (by rw [TS]; exact hz0) T1 ?_; simp only [Act.put, List.setIfInBounds_toArray, List.set_cons_zero, List.set_cons_succ])
  obtain ⟨k1, hk1⟩ : ∃ g, g = v.heap.size := ⟨_, rfl⟩
  refine wp_gen (fun W => ∀ s, Ext W s → Ky s w.heap.size ks ∧ Ext w s ∧ Bs s A1 n1 c1 C ∧ Bs s (some ⟨k1, 0, none⟩) 32 32 T) (fun s e => by
    obtain ⟨p1, p2, p3⟩ := P2.out s (e1.trans (x1.trans e))
    exact ⟨p1, p2, p3, ((show Ky _ k1 T from ⟨by rw [hk1]; exact setRow_heap _ _ _ _ _ _ a1.out, TL⟩).ext e).bs⟩) ?_
  rw [← hk1]
  clear hk1 a1 x1 e1 P2 TAG
  rintro w4 P4
  replace P4 := Lib.hid P4
  go_wp2_with fail
  refine wp_region_seq (R := Ext) Ext.refl (fun _ _ _ => Ext.trans) [0, 1, 2, 3, 4, 5, 6, 7, 8, 9, 10, 11, 12, 13, 14, 15, 16, 17, 18, 19, 20, 21, 22, 23, 24, 25, 26] [7] [(0, 34, 256), (1, 35, 17179869184), (2, 36, 34359738880), (6, 37, 103079215104), (2, 38, 34359738384), (2, 39, 34359738372), (2, 40, 34359738376), (114, 41, 1958505086976), (130, 42, 2233382993920), (266, 43, 4569845202944), (514, 44, 8830452760576), (1152, 45, 17592186044416), (2048, 46, 35184372090880), (6144, 47, 105553116266496), (10240, 48, 175921860444160), (18432, 49, 281474976710656), (32768, 50, 562949953422336), (98304, 51, 1688849860263936), (32768, 52, 562949953421824), (32768, 53, 562949953421824), (557056, 54, 9570149208162304), (1081344, 55, 18577348462903296), (2392064, 56, 41095346599755776), (4227072, 57, 72620543991349248), (8552448, 58, 146929937842962432), (16809984, 59, 288793326105133056), (67108863, 7, 576460752303423488)] (by kernel_rfl) (by kernel_rfl) (by kernel_rfl) rfl (by kernel_rfl) (by kernel_rfl) (fun _ _ d _ _ h => by cases d <;> exact h) ?_
  iterate 4 (first | (refine seq_read _ (fun w' e => conv_bs (P4.out w' ((Ext.refl _).drew.trans e)).2.2.1) _ (v := ?_) rfl rfl (by rfl) ?_ ?_; rotate_left; (· intro w' hF; go_simp; (try with_reducible rfl)); simp only [Act.put, List.setIfInBounds_toArray, List.set_cons_zero, List.set_cons_succ]) | (refine seq_skip _ rfl rfl (by rfl) ?_; simp only [Act.put, List.setIfInBounds_toArray, List.set_cons_zero, List.set_cons_succ]))
  refine seq_read (fun w' => w'.heap[w.heap.size]? = some (.cells (cellsOf ks).toArray 23 (0, 0))) (fun w' e => (P4.out w' ((Ext.refl _).drew.trans e)).1.1) _ (v := .agg (cellsOf ks).toArray) rfl rfl (by rfl) (fun w' hF => exec_load_row rfl rfl hF rfl rfl (by rw [KS]; rfl)) ?_
  simp only [Act.put, List.setIfInBounds_toArray, List.set_cons_zero, List.set_cons_succ]
  iterate 2 (first | (refine seq_read (fun _ => True) (fun _ _ => trivial) _ (v := ?_) rfl rfl (by rfl) ?_ ?_; rotate_left; (· intro w' hF; go_simp; (try with_reducible rfl)); simp only [Act.put, List.setIfInBounds_toArray, List.set_cons_zero, List.set_cons_succ]) | (refine seq_skip _ rfl rfl (by rfl) ?_; simp only [Act.put, List.setIfInBounds_toArray, List.set_cons_zero, List.set_cons_succ]))
  refine seq_do _ rfl rfl (by rfl) (fun K1 hK1 => ?_)
  go_simp
  refine (RC.out _ (P4.out _ (Ext.refl _).drew).2.1).mono ?_
  rintro e w5 ⟨A5, n5, c5, rfl, b5, e5⟩
  refine hK1.out _ _ e5 ?_
  clear hK1 K1
  try simp only [Act.put, List.setIfInBounds_toArray, List.set_cons_zero, List.set_cons_succ]
  have P5 : Hid (∀ s, Ext w5 s → Ext w s ∧ Bs s A1 n1 c1 C ∧ Bs s (some ⟨k1, 0, none⟩) 32 32 T ∧ Bs s A5 n5 c5 C) := fun s e => by
    obtain ⟨p1, p2, p3, p4⟩ := P4.out s ((Ext.refl _).drew.trans (e5.trans e))
    exact ⟨p2, p3, p4, b5.ext e⟩
  clear P4 e5 b5 RC
  iterate 14 (first | (refine seq_read _ (fun w' e => And.intro (conv_bs (P5.out w' e).2.2.2) (conv_bs (P5.out w' e).2.2.1)) _ (v := ?_) rfl rfl (by rfl) ?_ ?_; rotate_left; (· intro w' hF; go_simp; (try with_reducible rfl)); simp only [Act.put, List.setIfInBounds_toArray, List.set_cons_zero, List.set_cons_succ]) | (refine seq_skip _ rfl rfl (by rfl) ?_; simp only [Act.put, List.setIfInBounds_toArray, List.set_cons_zero, List.set_cons_succ]))
  refine seq_read (fun _ => True) (fun _ _ => trivial) _ (v := .slice (if c1 = m then A1 else A1.map (·.add m)) (n1 - m) (c1 - m)) rfl rfl (by rfl) (fun w' _ => exec_from rfl rfl rfl mn g1) ?_
  simp only [Act.put, List.setIfInBounds_toArray, List.set_cons_zero, List.set_cons_succ]
  have CUT : Hid (∀ s, Ext w5 s → Bs s (if c1 = m then A1 else A1.map (·.add m)) 32 (c1 - m) T) := fun s e => by
    have := ((P5.out s e).2.1).cut (k := m) mn
    rwa [nm.out, ← hT.out] at this
  rw [nm.out]
  generalize (if c1 = m then A1 else A1.map (·.add m)) = A6 at *
  generalize c1 - m = c6 at *
  repeat (first | (refine seq_read _ (fun w' e => conv_bs (CUT.out w' e)) _ (v := ?_) rfl rfl (by rfl) ?_ ?_; rotate_left; (· intro w' hF; go_simp; (try with_reducible rfl)); simp only [Act.put, List.setIfInBounds_toArray, List.set_cons_zero, List.set_cons_succ]) | (refine seq_skip _ rfl rfl (by rfl) ?_; simp only [Act.put, List.setIfInBounds_toArray, List.set_cons_zero, List.set_cons_succ]))
  refine seq_done ?_
  have E5 := Lib.hid (P5.out _ (Ext.refl _)).1
  clear P5 CUT
  go_wp2_with fail
  go_ret
  exact ⟨rfl, E5.out⟩

theorem sealCloses_calls {A A' : Option Addr} {n c m d : Nat} {ks bs ts : List UInt8} {w : World} (hk : ks.length = 32) (h : Bs w A n c bs) (h' : Bs w A' m d ts) {tg : TypeId × Nat × Nat} (hG : Gl w tg) :
    Calls Tryd.prog 10 #[.agg (cellsOf ks).toArray, .slice A n c, .slice A' m d] w fun e w' => e = .returned (.bool true) ∧ Ext w w' := by
  by_cases hq : 500 < n ∨ 500 < m
  · exact sealCloses_out h h' hq hG
  · exact sealCloses_main hk h h' (by omega) (by omega) hG
end Go.Proofs.YthdjojindijmnaaDoor
