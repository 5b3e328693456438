import Derived.Test.YthdjojindijmnaaDoorPkG
import Derived.Test.YthdjojindijmnaaDoorSeqT
import Derived.Test.YthdjojindijmnaaDoorR5Open
/-
  SealOpens: any bytes, opened.
-/
namespace Go.Proofs.YthdjojindijmnaaDoor
open Go.ChangeShapes Go.WideShapes Go.ChangeAt Go.RowKit Go.Deep
set_option maxRecDepth 100000

set_option maxHeartbeats 1000000 in
theorem sealOpens_out {A A' : Option Addr} {n c m d : Nat} {ks bs ts : List UInt8} {w : World} (h : Bs w A n c bs) (h' : Bs w A' m d ts) (hq : 500 < n ∨ 500 < m) {tg : TypeId × Nat × Nat} (hG : Gl w tg) :
    Calls Tryd.prog 11 #[.agg (cellsOf ks).toArray, .slice A n c, .slice A' m d] w fun e w' => e = .returned (.bool true) ∧ Ext w w' := by
  have h1 := h.le
  have h2 := h.cap
  have h3 := h'.le
  have h4 := h'.cap
  have AW := Lib.hid (fun (W : World) (e : Ext w W) => awake5_calls (hG.kept e hG.lt))
  clear hG
  generalize (cellsOf ks).toArray = T
  by_cases q1 : 500 < n
  · have q1' : decide ((500 : Int) < (n : Int)) = true := by simp; omega
    clear hq
    go_enter Tryd.func11, Tryd.ntmps11
    go_wp2_with fail
    refine (AW.out _ ((Ext.refl w).alloc _)).mono ?_
    rintro e w1 ⟨rfl, e1⟩
    go_wp2_with fail
    go_ret
    exact ⟨rfl, ((Ext.refl w).alloc _).trans e1⟩
  · have q1' : decide ((500 : Int) < (n : Int)) = false := by simp; omega
    have q2' : decide ((500 : Int) < (m : Int)) = true := by simp; omega
    clear hq
    go_enter Tryd.func11, Tryd.ntmps11
    go_wp2_with fail
    refine (AW.out _ ((Ext.refl w).alloc _)).mono ?_
    rintro e w1 ⟨rfl, e1⟩
    go_wp2_with fail
    go_ret
    exact ⟨rfl, ((Ext.refl w).alloc _).trans e1⟩

set_option maxHeartbeats 4000000 in
theorem sealOpens_main {A A' : Option Addr} {n c m d : Nat} {ks bs ts : List UInt8} {w : World} (hk : ks.length = 32) (h : Bs w A n c bs) (h' : Bs w A' m d ts) (hn : n ≤ 500) (hm : m ≤ 500) {tg : TypeId × Nat × Nat} (hG : Gl w tg) :
    Calls Tryd.prog 11 #[.agg (cellsOf ks).toArray, .slice A n c, .slice A' m d] w fun e w' => e = .returned (.bool true) ∧ Ext w w' := by
  have h1 := h.le
  have h2 := h.cap
  have h3 := h'.le
  have h4 := h'.cap
  have hl := h.len
  have hl' := h'.len
  have q1' : decide ((500 : Int) < (n : Int)) = false := by simp; omega
  have q2' : decide ((500 : Int) < (m : Int)) = false := by simp; omega
  have AW := Lib.hid (fun (W : World) (e : Ext w W) => awake5_calls (hG.kept e hG.lt))
  have CASE : Hid (∃ (R T : List UInt8) (er eg : Int), R.length ≤ 500 ∧ T.length = 32 ∧ ((m < 32 ∧ eg = 3) ∨ (32 ≤ m ∧ eg = 0 ∧ T = ts.drop (m - 32))) ∧ (∀ W, Ext w W → Calls Tryd.prog 23 #[.agg (cellsOf ks).toArray, .slice A n c, .slice A' m d] W (RetBsE R er W)) ∧ (∀ W, Ext w W → Calls Tryd.prog 26 #[.agg (cellsOf ks).toArray, .slice A n c, .slice A' m d] W (RetBsE R er W)) ∧ ∀ W, Ext w W → Calls Tryd.prog 24 #[.slice A' m d] W (RetTag T eg W)) := by
    by_cases hs : m < 32
    · exact ⟨[], List.replicate 32 0, 3, 3, by simp, by simp, .inl ⟨hs, rfl⟩, fun W e => open_short (h.ext e) (h'.ext e) hs, fun W e => r5open_short (h.ext e) (h'.ext e) hs, fun W e => tag_err (h'.ext e) hs⟩
    · have hq : m = (m - 32) + 32 := by omega
      refine ⟨_, ts.drop (m - 32), _, 0, ?_, by rw [List.length_drop]; omega, .inr ⟨by omega, rfl, rfl⟩, fun W e => open_main (b := !decide (sealM ks bs (ts.take (m - 32)) = ts.drop (m - 32))) hk (h.ext e) (h'.ext e) hq (by omega) (by omega) rfl (hG.kept e hG.lt), fun W e => r5open_main hk (h.ext e) (h'.ext e) hq (by omega) (by omega) rfl, fun W e => tag_calls (h'.ext e) hq (by omega)⟩
      split
      · simp
      · rw [sealT_len, List.length_take]; omega
  obtain ⟨R, T, er, eg, RL, TL, HC, OP, RO, TAG⟩ := CASE.out
  clear CASE hG
  replace HC := Lib.hid HC
  replace OP := Lib.hid OP
  replace RO := Lib.hid RO
  replace TAG := Lib.hid TAG
  obtain ⟨r, hr⟩ : ∃ r, R.length = r := ⟨_, rfl⟩
  have r500 : r ≤ 500 := by omega
  replace hr := Lib.hid hr
  clear RL
  have TS : (cellsOf T).toArray.size = 32 := by simp [cellsOf_len, TL]
  have T1 := cellsOf_one T
  have KS : (cellsOf ks).toArray.size = 32 := by simp [cellsOf_len, hk]
  have hal := key_alloc
  have hz0 := zeros32_size
  generalize zeros32 = Z at *
  have P0 : Hid (∀ s, Ext (w.alloc (Obj.cells (cellsOf ks).toArray 23)) s → Ky s w.heap.size ks ∧ Bs s A n c bs ∧ Bs s A' m d ts ∧ Ext w s) := fun s e => ⟨(Ky.boxed w hk).ext e, h.ext (((Ext.refl w).alloc _).trans e), h'.ext (((Ext.refl w).alloc _).trans e), ((Ext.refl w).alloc _).trans e⟩
  clear h h'
  go_enter Tryd.func11, Tryd.ntmps11
  go_wp2_with fail
  refine (AW.out _ ((Ext.refl w).alloc _)).mono ?_
  rintro e w1 ⟨rfl, e1⟩
  have P1 : Hid (∀ s, Ext w1 s → Ky s w.heap.size ks ∧ Bs s A n c bs ∧ Bs s A' m d ts ∧ Ext w s) := fun s e => P0.out s (e1.trans e)
  clear AW P0 e1
  have kk := Lib.hid (P1.out _ (Ext.refl _)).1
  go_wp2_with (refine wpList_exec rfl (exec_load_row rfl rfl kk.out.1 rfl rfl (by rw [KS]; rfl)) ?_; simp only [Act.put, List.setIfInBounds_toArray, List.set_cons_zero, List.set_cons_succ])
  refine (OP.out _ (P1.out _ (Ext.refl _)).2.2.2).mono ?_
  rintro e w2 ⟨A2, n2, c2, rfl, b2, e2⟩
  obtain rfl : n2 = r := by rw [← b2.len, hr.out]
  have g1 := b2.le
  have g2 := b2.cap
  have P2 : Hid (∀ s, Ext w2 s → Ky s w.heap.size ks ∧ Bs s A' m d ts ∧ Ext w s ∧ Bs s A2 n2 c2 R) := fun s e => by
    obtain ⟨p1, p2, p3, p4⟩ := P1.out s (e2.trans e)
    exact ⟨p1, p3, p4, b2.ext e⟩
  clear P1 e2 b2 kk OP
  have kk := Lib.hid (P2.out _ (Ext.refl _)).1
  go_wp2_with (refine wpList_exec rfl (exec_load_row rfl rfl kk.out.1 rfl rfl (by rw [KS]; rfl)) ?_; simp only [Act.put, List.setIfInBounds_toArray, List.set_cons_zero, List.set_cons_succ])
  refine (RO.out _ (P2.out _ (Ext.refl _)).2.2.1).mono ?_
  rintro e w3 ⟨A3, n3, c3, rfl, b3, e3⟩
  obtain rfl : n3 = n2 := by rw [← b3.len, hr.out]
  have g3 := b3.le
  have g4 := b3.cap
  have P3 : Hid (∀ s, Ext w3 s → Bs s A' m d ts ∧ Ext w s ∧ Bs s A2 n3 c2 R ∧ Bs s A3 n3 c3 R) := fun s e => by
    obtain ⟨p1, p2, p3, p4⟩ := P2.out s (e3.trans e)
    exact ⟨p2, p3, p4, b3.ext e⟩
  clear P2 e3 b3 kk RO
  go_wp2_with fail
  refine (TAG.out _ (P3.out _ (Ext.refl _)).2.1).mono ?_
  rintro e v ⟨rfl, e1⟩
  have a1 : Hid ((v.alloc (Obj.cells Z 23)).heap[v.heap.size]? = some (.cells Z 23 (0, 0))) := heap_alloc_new _ _
  have x1 : Ext v ((v.alloc (Obj.cells Z 23)).setRow v.heap.size (cellsOf T).toArray) := below_setRow ((Ext.refl v).alloc _) (Nat.le_refl _) _
  go_upto_region 7 with (refine wpList_store_row rfl 23 _ _ rfl v.heap.size (cellsOf T).toArray rfl rfl 23 Z a1.out (by rw [TS]; rfl) (by rw [TS]; exact hz0) T1 ?_; simp only [Act.put, List.setIfInBounds_toArray, List.set_cons_zero, List.set_cons_succ])
  obtain ⟨k1, hk1⟩ : ∃ g, g = v.heap.size := ⟨_, rfl⟩
  refine wp_gen (fun W => ∀ s, Ext W s → Bs s A' m d ts ∧ Ext w s ∧ Bs s A2 n3 c2 R ∧ Bs s A3 n3 c3 R ∧ Bs s (some ⟨k1, 0, none⟩) 32 32 T) (fun s e => by
    obtain ⟨p1, p2, p3, p4⟩ := P3.out s (e1.trans (x1.trans e))
    exact ⟨p1, p2, p3, p4, ((show Ky _ k1 T from ⟨by rw [hk1]; exact setRow_heap _ _ _ _ _ _ a1.out, TL⟩).ext e).bs⟩) ?_
  rw [← hk1]
  clear hk1 a1 x1 e1 P3 TAG
  rintro w4 P4
  replace P4 := Lib.hid P4
  rcases HC.out with ⟨hs, rfl⟩ | ⟨hs, rfl, hT⟩
  · clear HC
    have t32 : decide ((m : Int) < 32) = true := decide_eq_true (by omega)
    have t32' : (m : Int) < 32 := by omega
    clear hs
    go_wp2_with fail
    refine wp_region_seq (R := Ext) Ext.refl (fun _ _ _ => Ext.trans) [0, 1, 2, 3, 4, 5, 6, 7, 8, 9, 10, 11, 12, 13, 14, 15, 16, 17, 18, 19, 20, 21, 22, 23, 24, 25, 26, 27, 28, 29, 30, 31, 32, 33, 34, 35, 36] [] [(0, 44, 256), (1, 45, 17592186044416), (2, 46, 35184372089344), (6, 47, 105553116266496), (2, 48, 35184372090880), (18, 49, 316659348799488), (42, 50, 738871813865472), (66, 51, 1161084278931456), (130, 52, 2251799813685248), (256, 53, 4503599627371520), (256, 54, 4503599627374592), (1792, 55, 31525197391593472), (2304, 56, 40532396646334464), (4352, 57, 72057594037927936), (8192, 58, 144115188075872256), (24576, 59, 432345564227567616), (8192, 60, 144115188075855880), (73728, 61, 1297036692682702848), (139264, 62, 2449958197289549824), (303104, 63, 5332261958806667264), (532480, 64, 9367487224930631680), (1056768, 65, 18446744073709551616), (2097152, 66, 36893488147419119616), (6291456, 67, 110680464442257309696), (10485760, 68, 184467440737095516160), (16777216, 69, 295147905179352834048), (50331648, 70, 885443715538058477568), (16777216, 71, 295147905179352825864), (16777216, 72, 295147905179352825864), (285212672, 73, 5017514388048998039552), (553648128, 74, 9739880870918643253248), (1224736768, 75, 21545797078092756287488), (2164260864, 76, 38074079768136514535424), (4378853376, 77, 77033603251811087548416), (8608808960, 78, 151447768845155418767360), (17181966336, 79, 302268348391804712779776), (68719476735, 7, 604462909807314587353088)] (by kernel_rfl) (by kernel_rfl) (by kernel_rfl) rfl (by kernel_rfl) (by kernel_rfl) (fun _ _ d _ _ h => by cases d <;> exact h) ?_
    repeat (first | (refine seq_read _ (fun w' e => And.intro (conv_bs (P4.out w' ((Ext.refl _).drew.trans e)).2.2.1) (conv_bs (P4.out w' ((Ext.refl _).drew.trans e)).2.2.2.1)) _ (v := ?_) rfl rfl (by rfl) ?_ ?_; rotate_left; (· intro w' hF; go_simp; (try with_reducible rfl)); simp only [Act.put, List.setIfInBounds_toArray, List.set_cons_zero, List.set_cons_succ]) | (refine seq_skip _ rfl rfl (by rfl) ?_; simp only [Act.put, List.setIfInBounds_toArray, List.set_cons_zero, List.set_cons_succ]))
    refine seq_done ?_
    have E5 := Lib.hid (P4.out _ (Ext.refl _).drew).2.1
    clear P4
    go_wp2_with fail
    go_ret
    exact ⟨rfl, E5.out⟩
  · clear HC
    obtain ⟨q, hq⟩ : ∃ q, q = m - 32 := ⟨_, rfl⟩
    rw [← hq] at hT
    have qm : q ≤ m := by omega
    have nm : Hid (m - q = 32) := by unfold Hid; omega
    have hd : (m : Int) - 32 = (q : Int) := by omega
    have hw : IntKind.i64.wrap (q : Int) = (q : Int) := IntWalk.i64_in _ (by omega)
    have t32 : decide ((m : Int) < 32) = false := decide_eq_false (by omega)
    have t32' : ¬ (m : Int) < 32 := by omega
    replace hq := Lib.hid hq
    replace hT := Lib.hid hT
    clear hs
    go_wp2_with fail
    refine wp_region_seq (R := Ext) Ext.refl (fun _ _ _ => Ext.trans) [0, 1, 2, 3, 4, 5, 6, 7, 8, 9, 10, 11, 12, 13, 14, 15, 16, 17, 18, 19, 20, 21, 22, 23, 24, 25, 26, 27, 28, 29, 30, 31, 32, 33, 34, 35, 36] [] [(0, 44, 256), (1, 45, 17592186044416), (2, 46, 35184372089344), (6, 47, 105553116266496), (2, 48, 35184372090880), (18, 49, 316659348799488), (42, 50, 738871813865472), (66, 51, 1161084278931456), (130, 52, 2251799813685248), (256, 53, 4503599627371520), (256, 54, 4503599627374592), (1792, 55, 31525197391593472), (2304, 56, 40532396646334464), (4352, 57, 72057594037927936), (8192, 58, 144115188075872256), (24576, 59, 432345564227567616), (8192, 60, 144115188075855880), (73728, 61, 1297036692682702848), (139264, 62, 2449958197289549824), (303104, 63, 5332261958806667264), (532480, 64, 9367487224930631680), (1056768, 65, 18446744073709551616), (2097152, 66, 36893488147419119616), (6291456, 67, 110680464442257309696), (10485760, 68, 184467440737095516160), (16777216, 69, 295147905179352834048), (50331648, 70, 885443715538058477568), (16777216, 71, 295147905179352825864), (16777216, 72, 295147905179352825864), (285212672, 73, 5017514388048998039552), (553648128, 74, 9739880870918643253248), (1224736768, 75, 21545797078092756287488), (2164260864, 76, 38074079768136514535424), (4378853376, 77, 77033603251811087548416), (8608808960, 78, 151447768845155418767360), (17181966336, 79, 302268348391804712779776), (68719476735, 7, 604462909807314587353088)] (by kernel_rfl) (by kernel_rfl) (by kernel_rfl) rfl (by kernel_rfl) (by kernel_rfl) (fun _ _ d _ _ h => by cases d <;> exact h) ?_
    iterate 31 (first | (refine seq_read _ (fun w' e => And.intro (conv_bs (P4.out w' ((Ext.refl _).drew.trans e)).2.2.1) (And.intro (conv_bs (P4.out w' ((Ext.refl _).drew.trans e)).2.2.2.1) (conv_bs (P4.out w' ((Ext.refl _).drew.trans e)).2.2.2.2))) _ (v := ?_) rfl rfl (by rfl) ?_ ?_; rotate_left; (· intro w' hF; go_simp; (try with_reducible rfl)); simp only [Act.put, List.setIfInBounds_toArray, List.set_cons_zero, List.set_cons_succ]) | (refine seq_skip _ rfl rfl (by rfl) ?_; simp only [Act.put, List.setIfInBounds_toArray, List.set_cons_zero, List.set_cons_succ]))
    refine seq_read (fun _ => True) (fun _ _ => trivial) _ (v := .slice (if d = q then A' else A'.map (·.add q)) (m - q) (d - q)) rfl rfl (by rfl) (fun w' _ => exec_from rfl rfl rfl qm h3) ?_
    simp only [Act.put, List.setIfInBounds_toArray, List.set_cons_zero, List.set_cons_succ]
    have CUT : Hid (∀ s, Ext w4 s → Bs s (if d = q then A' else A'.map (·.add q)) 32 (d - q) T) := fun s e => by
      have := ((P4.out s e).1).cut (k := q) qm
      rwa [nm.out, ← hT.out] at this
    rw [nm.out]
    generalize (if d = q then A' else A'.map (·.add q)) = A6 at *
    generalize d - q = c6 at *
    repeat (first | (refine seq_read _ (fun w' e => conv_bs (CUT.out w' ((Ext.refl _).drew.trans e))) _ (v := ?_) rfl rfl (by rfl) ?_ ?_; rotate_left; (· intro w' hF; go_simp; (try with_reducible rfl)); simp only [Act.put, List.setIfInBounds_toArray, List.set_cons_zero, List.set_cons_succ]) | (refine seq_skip _ rfl rfl (by rfl) ?_; simp only [Act.put, List.setIfInBounds_toArray, List.set_cons_zero, List.set_cons_succ]))
    refine seq_done ?_
    have E5 := Lib.hid (P4.out _ (Ext.refl _).drew).2.1
    clear P4 CUT
    go_wp2_with fail
    go_ret
    exact ⟨rfl, E5.out⟩

theorem sealOpens_calls {A A' : Option Addr} {n c m d : Nat} {ks bs ts : List UInt8} {w : World} (hk : ks.length = 32) (h : Bs w A n c bs) (h' : Bs w A' m d ts) {tg : TypeId × Nat × Nat} (hG : Gl w tg) :
    Calls Tryd.prog 11 #[.agg (cellsOf ks).toArray, .slice A n c, .slice A' m d] w fun e w' => e = .returned (.bool true) ∧ Ext w w' := by
  by_cases hq : 500 < n ∨ 500 < m
  · exact sealOpens_out h h' hq hG
  · exact sealOpens_main hk h h' (by omega) (by omega) hG
end Go.Proofs.YthdjojindijmnaaDoor
