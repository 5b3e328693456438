import Derived.Test.YthdjojindijmnaaDoorPkB
import Derived.Test.YthdjojindijmnaaDoorSeqT
/-
  SealLong: what is closed is longer by the tag alone; the same are closed to the same.
-/
namespace Go.Proofs.YthdjojindijmnaaDoor
open Go.ChangeShapes Go.WideShapes Go.ChangeAt Go.RowKit Go.Deep
set_option maxRecDepth 100000

set_option maxHeartbeats 1000000 in
theorem sealLong_out {A A' : Option Addr} {n c m d : Nat} {ks bs ts : List UInt8} {w : World} (h : Bs w A n c bs) (h' : Bs w A' m d ts) (hq : 500 < n ∨ 500 < m) {tg : TypeId × Nat × Nat} (hG : Gl w tg) :
    Calls Tryd.prog 9 #[.agg (cellsOf ks).toArray, .slice A n c, .slice A' m d] w fun e w' => e = .returned (.bool true) ∧ Ext w w' := by
  have h1 := h.le
  have h2 := h.cap
  have h3 := h'.le
  have h4 := h'.cap
  have AW := Lib.hid (fun (W : World) (e : Ext w W) => awake5_calls (hG.kept e hG.lt))
  clear hG
  generalize (cellsOf ks).toArray = T
  by_cases q1 : 500 < n
  · have q1' : decide ((500 : Int) < (n : Int)) = true := by simp; omega
    clear hq
    go_enter Tryd.func9, Tryd.ntmps9
    go_wp2_with fail
    refine (AW.out _ ((Ext.refl w).alloc _)).mono ?_
    rintro e w1 ⟨rfl, e1⟩
    go_wp2_with fail
    go_ret
    exact ⟨rfl, ((Ext.refl w).alloc _).trans e1⟩
  · have q1' : decide ((500 : Int) < (n : Int)) = false := by simp; omega
    have q2' : decide ((500 : Int) < (m : Int)) = true := by simp; omega
    clear hq
    go_enter Tryd.func9, Tryd.ntmps9
    go_wp2_with fail
    refine (AW.out _ ((Ext.refl w).alloc _)).mono ?_
    rintro e w1 ⟨rfl, e1⟩
    go_wp2_with fail
    go_ret
    exact ⟨rfl, ((Ext.refl w).alloc _).trans e1⟩

set_option maxHeartbeats 4000000 in
theorem sealLong_main {A A' : Option Addr} {n c m d : Nat} {ks bs ts : List UInt8} {w : World} (hk : ks.length = 32) (h : Bs w A n c bs) (h' : Bs w A' m d ts) (hn : n ≤ 500) (hm : m ≤ 500) {tg : TypeId × Nat × Nat} (hG : Gl w tg) :
    Calls Tryd.prog 9 #[.agg (cellsOf ks).toArray, .slice A n c, .slice A' m d] w fun e w' => e = .returned (.bool true) ∧ Ext w w' := by
  have h1 := h.le
  have h2 := h.cap
  have h3 := h'.le
  have h4 := h'.cap
  have hl := h.len
  have hl' := h'.len
  have q1' : decide ((500 : Int) < (n : Int)) = false := by simp; omega
  have q2' : decide ((500 : Int) < (m : Int)) = false := by simp; omega
  have AW := Lib.hid (fun (W : World) (e : Ext w W) => awake5_calls (hG.kept e hG.lt))
  have CL : Hid (∀ (W : World) (A1 A2 : Option Addr) (c1 c2 : Nat), Ext w W → Bs W A1 n c1 bs → Bs W A2 m c2 ts → Calls Tryd.prog 22 #[.agg (cellsOf ks).toArray, .slice A1 n c1, .slice A2 m c2] W (RetOwn (sealL ks bs ts) W)) := fun W A1 A2 c1 c2 e b1 b2 => close_calls hk b1 b2 (by omega) (by omega) (hG.kept e hG.lt)
  have TAG : Hid (∀ (W : World) (A1 : Option Addr) (n1 c1 : Nat), n1 = m + 32 → Bs W A1 n1 c1 (sealL ks bs ts) → Calls Tryd.prog 24 #[.slice A1 n1 c1] W (RetTag ((sealL ks bs ts).drop m) 0 W)) := fun W A1 n1 c1 e b => tag_calls b e (by omega)
  have CLL := (sealL_len ks bs ts).trans (congrArg (· + 32) hl')
  clear hG
  have TL : ((sealL ks bs ts).drop m).length = 32 := by rw [List.length_drop, CLL]; omega
  generalize (sealL ks bs ts).drop m = T at *
  generalize sealL ks bs ts = C at *
  replace CLL := Lib.hid CLL
  have TS : (cellsOf T).toArray.size = 32 := by simp [cellsOf_len, TL]
  have T1 := cellsOf_one T
  have KS : (cellsOf ks).toArray.size = 32 := by simp [cellsOf_len, hk]
  have hal := key_alloc
  have hz0 := zeros32_size
  generalize zeros32 = Z at *
  have P0 : Hid (∀ s, Ext (w.alloc (Obj.cells (cellsOf ks).toArray 23)) s → Ky s w.heap.size ks ∧ Bs s A n c bs ∧ Bs s A' m d ts ∧ Ext w s) := fun s e => ⟨(Ky.boxed w hk).ext e, h.ext (((Ext.refl w).alloc _).trans e), h'.ext (((Ext.refl w).alloc _).trans e), ((Ext.refl w).alloc _).trans e⟩
  clear h h'
  go_enter Tryd.func9, Tryd.ntmps9
  go_wp2_with fail
  refine (AW.out _ ((Ext.refl w).alloc _)).mono ?_
  rintro e w1 ⟨rfl, e1⟩
  have P1 : Hid (∀ s, Ext w1 s → Ky s w.heap.size ks ∧ Bs s A n c bs ∧ Bs s A' m d ts ∧ Ext w s) := fun s e => P0.out s (e1.trans e)
  clear AW P0 e1
  have kk := Lib.hid (P1.out _ (Ext.refl _)).1
  go_wp2_with (refine wpList_exec rfl (exec_load_row rfl rfl kk.out.1 rfl rfl (by rw [KS]; rfl)) ?_; simp only [Act.put, List.setIfInBounds_toArray, List.set_cons_zero, List.set_cons_succ])
  refine (CL.out _ _ _ _ _ (P1.out _ (Ext.refl _)).2.2.2 (P1.out _ (Ext.refl _)).2.1 (P1.out _ (Ext.refl _)).2.2.1).mono ?_
  rintro e w2 ⟨A1, n1, c1, rfl, o1, e2⟩
  have hn1 : n1 = m + 32 := by rw [← o1.len, CLL.out]
  have u1 : n1 ≤ 532 := by omega
  have tq : Hid (((n1 : Int) == (m : Int) + 32) = true) := decide_eq_true (by omega)
  replace hn1 := Lib.hid hn1
  have o1b := o1.bs
  have g1 := o1b.le
  have g2 := o1b.cap
  have P2 : Hid (∀ s, Ext w2 s → Ky s w.heap.size ks ∧ Bs s A n c bs ∧ Bs s A' m d ts ∧ Ext w s ∧ Bs s A1 n1 c1 C) := fun s e => by
    obtain ⟨p1, p2, p3, p4⟩ := P1.out s (e2.trans e)
    exact ⟨p1, p2, p3, p4, o1b.ext e⟩
  clear P1 e2 o1 o1b kk
  go_wp2_with fail
  refine wp_region_tree (R := Ext) Ext.refl (fun _ _ _ => Ext.trans) (.rd 0 (.rd 2 (.rd 5 (.alt 1 (.alt 3 (.alt 4 (.alt 6 (.alt 7 (.rd 8 .nil) .stop) .stop) .stop) (.alt 4 (.alt 3 (.alt 6 (.alt 7 (.rd 8 .nil) .stop) .stop) .stop) .stop)) (.alt 4 (.alt 1 (.alt 3 (.alt 6 (.alt 7 (.rd 8 .nil) .stop) .stop) .stop) .stop) .stop))))) [(0, 29, 16), (0, 30, 0), (0, 31, 4), (6, 32, 3221225472), (0, 33, 0), (0, 34, 8), (56, 35, 25769803776), (73, 36, 39191576576), (255, 10, 68719476736)] 9 (by kernel_rfl) (by kernel_rfl) (by kernel_rfl) rfl (by kernel_rfl) (by kernel_rfl) (fun _ _ d _ _ h => by cases d <;> exact h) ?_
  have SE : Hid (Ext w2 w2.drew) := (Ext.refl w2).drew
  refine seqT_read (fun w' => w'.heap[w.heap.size]? = some (.cells (cellsOf ks).toArray 23 (0, 0))) (fun w' e => (P2.out w' (SE.out.trans e)).1.1) _ (v := .agg (cellsOf ks).toArray) rfl (by rfl) (fun w' hF => exec_load_row rfl rfl hF rfl rfl (by rw [KS]; rfl)) ?_
  simp only [Act.put, List.setIfInBounds_toArray, List.set_cons_zero, List.set_cons_succ]
  repeat (first | (refine seqT_read (fun _ => True) (fun _ _ => trivial) _ (v := ?_) rfl ?_ ?_ ?_; rotate_left; (· rfl); (· intro w' hF; go_simp; (try with_reducible rfl)); simp only [Act.put, List.setIfInBounds_toArray, List.set_cons_zero, List.set_cons_succ]) | (refine seqT_skip _ rfl ?_ ?_; (· rfl); simp only [Act.put, List.setIfInBounds_toArray, List.set_cons_zero, List.set_cons_succ]))
  generalize w2.drew = WC at *
  repeat' (first
      | exact seqT_stop
      | (refine seqT_do (i := 1) _ rfl ?_ ?_ (fun K1 hK1 => ?_)
         (· rfl)
         rotate_left
         go_simp
         have e : Ext WC (WC.alloc (Obj.cells #[] 5)) := (Ext.refl WC).alloc _
         generalize WC.heap.size = g1
         refine hK1.out _ _ e ?_
         clear hK1 K1
         (try replace X2 := Lib.hid (X2.out.ext e))
         replace SE := Lib.hid (SE.out.trans e)
         clear e
         generalize WC.alloc (Obj.cells #[] 5) = WC at *
         (try simp only [Act.put, List.setIfInBounds_toArray, List.set_cons_zero, List.set_cons_succ])
         repeat (first | (refine seqT_read (fun _ => True) (fun _ _ => trivial) _ (v := ?_) rfl ?_ ?_ ?_; rotate_left; (· rfl); (· intro w' hF; go_simp; (try with_reducible rfl)); simp only [Act.put, List.setIfInBounds_toArray, List.set_cons_zero, List.set_cons_succ]) | (refine seqT_skip _ rfl ?_ ?_; (· rfl); simp only [Act.put, List.setIfInBounds_toArray, List.set_cons_zero, List.set_cons_succ]))
         skip)
      | (refine seqT_do (i := 4) _ rfl ?_ ?_ (fun K1 hK1 => ?_)
         (· rfl)
         rotate_left
         go_simp
         have e : Ext WC (WC.alloc (Obj.cells #[] 5)) := (Ext.refl WC).alloc _
         generalize WC.heap.size = g2
         refine hK1.out _ _ e ?_
         clear hK1 K1
         (try replace X1 := Lib.hid (X1.out.ext e))
         replace SE := Lib.hid (SE.out.trans e)
         clear e
         generalize WC.alloc (Obj.cells #[] 5) = WC at *
         (try simp only [Act.put, List.setIfInBounds_toArray, List.set_cons_zero, List.set_cons_succ])
         repeat (first | (refine seqT_read (fun _ => True) (fun _ _ => trivial) _ (v := ?_) rfl ?_ ?_ ?_; rotate_left; (· rfl); (· intro w' hF; go_simp; (try with_reducible rfl)); simp only [Act.put, List.setIfInBounds_toArray, List.set_cons_zero, List.set_cons_succ]) | (refine seqT_skip _ rfl ?_ ?_; (· rfl); simp only [Act.put, List.setIfInBounds_toArray, List.set_cons_zero, List.set_cons_succ]))
         skip)
      | (refine seqT_do (i := 3) _ rfl ?_ ?_ (fun K1 hK1 => ?_)
         (· rfl)
         rotate_left
         refine wp_append_empty rfl rfl rfl (P2.out _ SE.out).2.1 (by omega) ?_
         intro A5 c5 WC b5 e
         refine hK1.out _ _ e ?_
         clear hK1 K1
         (try replace X2 := Lib.hid (X2.out.ext e))
         have X1 := Lib.hid b5
         replace SE := Lib.hid (SE.out.trans e)
         clear e b5
         (try simp only [Act.put, List.setIfInBounds_toArray, List.set_cons_zero, List.set_cons_succ])
         repeat (first | (refine seqT_read (fun _ => True) (fun _ _ => trivial) _ (v := ?_) rfl ?_ ?_ ?_; rotate_left; (· rfl); (· intro w' hF; go_simp; (try with_reducible rfl)); simp only [Act.put, List.setIfInBounds_toArray, List.set_cons_zero, List.set_cons_succ]) | (refine seqT_skip _ rfl ?_ ?_; (· rfl); simp only [Act.put, List.setIfInBounds_toArray, List.set_cons_zero, List.set_cons_succ]))
         skip)
      | (refine seqT_do (i := 6) _ rfl ?_ ?_ (fun K1 hK1 => ?_)
         (· rfl)
         rotate_left
         refine wp_append_empty rfl rfl rfl (P2.out _ SE.out).2.2.1 (by omega) ?_
         intro A6 c6 WC b6 e
         refine hK1.out _ _ e ?_
         clear hK1 K1
         (try replace X1 := Lib.hid (X1.out.ext e))
         have X2 := Lib.hid b6
         replace SE := Lib.hid (SE.out.trans e)
         clear e b6
         (try simp only [Act.put, List.setIfInBounds_toArray, List.set_cons_zero, List.set_cons_succ])
         repeat (first | (refine seqT_read (fun _ => True) (fun _ _ => trivial) _ (v := ?_) rfl ?_ ?_ ?_; rotate_left; (· rfl); (· intro w' hF; go_simp; (try with_reducible rfl)); simp only [Act.put, List.setIfInBounds_toArray, List.set_cons_zero, List.set_cons_succ]) | (refine seqT_skip _ rfl ?_ ?_; (· rfl); simp only [Act.put, List.setIfInBounds_toArray, List.set_cons_zero, List.set_cons_succ]))
         skip)
      | (refine seqT_do (i := 7) _ rfl ?_ ?_ (fun K1 hK1 => ?_)
         (· rfl)
         rotate_left
         go_simp
         refine (CL.out _ _ _ _ _ (P2.out _ SE.out).2.2.2.1 X1.out X2.out).mono ?_
         rintro e w3 ⟨A2, n2, c2, rfl, o2, e3⟩
         refine hK1.out _ _ e3 ?_
         clear hK1 K1
         (try simp only [Act.put, List.setIfInBounds_toArray, List.set_cons_zero, List.set_cons_succ])
         repeat (first | (refine seqT_read (fun _ => True) (fun _ _ => trivial) _ (v := ?_) rfl ?_ ?_ ?_; rotate_left; (· rfl); (· intro w' hF; go_simp; (try with_reducible rfl)); simp only [Act.put, List.setIfInBounds_toArray, List.set_cons_zero, List.set_cons_succ]) | (refine seqT_skip _ rfl ?_ ?_; (· rfl); simp only [Act.put, List.setIfInBounds_toArray, List.set_cons_zero, List.set_cons_succ]))
         refine seqT_done ?_
         obtain rfl : n2 = n1 := by rw [← o2.len, CLL.out, hn1.out]
         have o2b := o2.bs
         have g3 := o2b.le
         have g4 := o2b.cap
         have P3 : Hid (∀ s, Ext w3 s → Ky s w.heap.size ks ∧ Bs s A n c bs ∧ Bs s A' m d ts ∧ Ext w s ∧ Bs s A1 n2 c1 C ∧ Bs s A2 n2 c2 C) := fun s e => by
           obtain ⟨p1, p2, p3, p4, p5⟩ := P2.out s (SE.out.trans (e3.trans e))
           exact ⟨p1, p2, p3, p4, p5, o2b.ext e⟩
         clear P2 e3 o2 o2b SE X1 X2 CL
         go_wp2_with fail
         refine (TAG.out _ _ _ _ hn1.out (P3.out _ (Ext.refl _)).2.2.2.2.1).mono ?_
         rintro e v ⟨rfl, e1⟩
         have a1 : Hid ((v.alloc (Obj.cells Z 23)).heap[v.heap.size]? = some (.cells Z 23 (0, 0))) := heap_alloc_new _ _
         have x1 : Ext v ((v.alloc (Obj.cells Z 23)).setRow v.heap.size (cellsOf T).toArray) := below_setRow ((Ext.refl v).alloc _) (Nat.le_refl _) _
         go_upto_region 7 with (refine wpList_store_row rfl 23 _ _ rfl v.heap.size (cellsOf T).toArray rfl rfl 23 Z a1.out (by rw [TS]; rfl) (by rw [TS]; exact hz0) T1 ?_; simp only [Act.put, List.setIfInBounds_toArray, List.set_cons_zero, List.set_cons_succ])
         obtain ⟨k1, hk1⟩ : ∃ g, g = v.heap.size := ⟨_, rfl⟩
         refine wp_gen (fun W => ∀ s, Ext W s → Ext w s ∧ Bs s A1 n2 c1 C ∧ Bs s A2 n2 c2 C ∧ Ky s k1 T) (fun s e => by
           obtain ⟨p1, p2, p3, p4, p5, p6⟩ := P3.out s (e1.trans (x1.trans e))
           exact ⟨p4, p5, p6, (show Ky _ k1 T from ⟨by rw [hk1]; exact setRow_heap _ _ _ _ _ _ a1.out, TL⟩).ext e⟩) ?_
         rw [← hk1]
         clear hk1 a1 x1 e1 P3
         rintro w4 P4
         replace P4 := Lib.hid P4
         go_wp2_with fail
         refine (TAG.out _ _ _ _ hn1.out (P4.out _ (Ext.refl _)).2.2.1).mono ?_
         rintro e v ⟨rfl, e1⟩
         have a1 : Hid ((v.alloc (Obj.cells Z 23)).heap[v.heap.size]? = some (.cells Z 23 (0, 0))) := heap_alloc_new _ _
         have x1 : Ext v ((v.alloc (Obj.cells Z 23)).setRow v.heap.size (cellsOf T).toArray) := below_setRow ((Ext.refl v).alloc _) (Nat.le_refl _) _
         go_upto_region 8 with (refine wpList_store_row rfl 23 _ _ rfl v.heap.size (cellsOf T).toArray rfl rfl 23 Z a1.out (by rw [TS]; rfl) (by rw [TS]; exact hz0) T1 ?_; simp only [Act.put, List.setIfInBounds_toArray, List.set_cons_zero, List.set_cons_succ])
         obtain ⟨k2, hk1⟩ : ∃ g, g = v.heap.size := ⟨_, rfl⟩
         refine wp_gen (fun W => Ext w W ∧ Bs W A1 n2 c1 C ∧ Bs W A2 n2 c2 C ∧ Ky W k1 T ∧ Ky W k2 T) (by
           obtain ⟨p1, p2, p3, p4⟩ := P4.out _ (e1.trans x1)
           exact ⟨p1, p2, p3, p4, ⟨by rw [hk1]; exact setRow_heap _ _ _ _ _ _ a1.out, TL⟩⟩) ?_
         rw [← hk1]
         clear hk1 a1 x1 e1 P4 TAG
         rintro w5 ⟨p1, p2, p3, p4, p5⟩
         have cv1 := conv_bs p2
         have cv2 := conv_bs p3
         have tq' := tq.out
         replace p1 := Lib.hid p1
         replace p4 := Lib.hid p4
         replace p5 := Lib.hid p5
         clear p2 p3 tq hn1
         go_wp2_with (first
           | (refine wpList_exec rfl (exec_load_row rfl rfl p4.out.1 rfl rfl (by rw [TS]; rfl)) ?_; simp only [Act.put, List.setIfInBounds_toArray, List.set_cons_zero, List.set_cons_succ])
           | (refine wpList_exec rfl (exec_load_row rfl rfl p5.out.1 rfl rfl (by rw [TS]; rfl)) ?_; simp only [Act.put, List.setIfInBounds_toArray, List.set_cons_zero, List.set_cons_succ])
           | (refine wpList_exec rfl (exec_eql_keyB (xs := T) (ys := T) (decide_eq_true rfl) TL TL rfl rfl rfl) ?_; simp only [Act.put, List.setIfInBounds_toArray, List.set_cons_zero, List.set_cons_succ]))
         go_ret
         exact ⟨rfl, p1.out⟩)
      )

theorem sealLong_calls {A A' : Option Addr} {n c m d : Nat} {ks bs ts : List UInt8} {w : World} (hk : ks.length = 32) (h : Bs w A n c bs) (h' : Bs w A' m d ts) {tg : TypeId × Nat × Nat} (hG : Gl w tg) :
    Calls Tryd.prog 9 #[.agg (cellsOf ks).toArray, .slice A n c, .slice A' m d] w fun e w' => e = .returned (.bool true) ∧ Ext w w' := by
  by_cases hq : 500 < n ∨ 500 < m
  · exact sealLong_out h h' hq hG
  · exact sealLong_main hk h h' (by omega) (by omega) hG
end Go.Proofs.YthdjojindijmnaaDoor
