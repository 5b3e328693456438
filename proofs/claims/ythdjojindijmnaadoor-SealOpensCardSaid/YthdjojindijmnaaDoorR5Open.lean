/-
  The document's Open (layer 5).
-/
import Derived.Test.YthdjojindijmnaaDoorR5Tag
namespace Go.Proofs.YthdjojindijmnaaDoor
open Go.ChangeShapes Go.WideShapes Go.ChangeAt Go.RowKit Go.Deep
set_option maxRecDepth 100000

theorem r5toList (xs : List UInt8) : (strL xs).toList = xs := by
  rw [ByteArray.toList_eq]
  rfl
set_option maxHeartbeats 1000000 in
theorem r5open_short {A B : Option Addr} {n c m d : Nat} {ks bs cs : List UInt8} {w : World} (h : Bs w A n c bs) (h' : Bs w B m d cs) (hm : m < 32) :
    Calls Tryd.prog 26 #[.agg (cellsOf ks).toArray, .slice A n c, .slice B m d] w (RetBsE [] 3 w) := by
  have z1 := h.le
  have z2 := h.cap
  have z3 := h'.le
  have z4 := h'.cap
  clear h h'
  generalize (cellsOf ks).toArray = KS
  obtain ⟨q, hq⟩ : ∃ q : Int, q = (m : Int) - 32 := ⟨_, rfl⟩
  have hd : (m : Int) - 32 = q := hq.symm
  have hw : IntKind.i64.wrap q = q := IntWalk.i64_in _ (by omega)
  have q0 : decide (q < 0) = true := decide_eq_true (by omega)
  replace hq := Lib.hid hq
  go_enter Tryd.func26, Tryd.ntmps26
  go_wp2_with fail
  go_ret2
  exact ⟨none, 0, 0, rfl, Bs.nil _, (Ext.refl w).alloc _⟩

set_option maxHeartbeats 4000000 in
theorem r5open_main {A B : Option Addr} {n c m d q : Nat} {ks bs cs : List UInt8} {w : World} (hk : ks.length = 32) (h : Bs w A n c bs) (h' : Bs w B m d cs) (hq : m = q + 32) (hn : n ≤ 100000) (hm : m ≤ 100000) {b : Bool} (hb : (!decide (sealM ks bs (cs.take q) = cs.drop q)) = b) :
    Calls Tryd.prog 26 #[.agg (cellsOf ks).toArray, .slice A n c, .slice B m d] w (RetBsE (if b then [] else sealT ks (cs.take q)) (if b then 4 else 0) w) := by
  obtain ⟨R, hR⟩ : ∃ R, R = (if b then [] else sealT ks (cs.take q)) := ⟨_, rfl⟩
  obtain ⟨er, hE⟩ : ∃ er : Int, er = (if b then 4 else 0) := ⟨_, rfl⟩
  rw [← hR, ← hE]
  replace hR := Lib.hid hR
  replace hE := Lib.hid hE
  have qm : q ≤ m := by omega
  have TURN : Hid (∀ W, Ext w W → Calls Tryd.prog 36 #[.agg (cellsOf ks).toArray, .slice B q d] W (RetOwn (sealT ks (cs.take q)) W)) := fun W e => r5turn_calls hk ((h'.ext e).take qm) (by omega)
  have TAG : Hid (∀ W, Ext w W → Calls Tryd.prog 37 #[.agg (cellsOf ks).toArray, .slice A n c, .slice B q d] W fun e w' => e = .returned (.agg (cellsOf (sealM ks bs (cs.take q))).toArray) ∧ Ext W w') := fun W e => r5tag_calls hk (h.ext e) ((h'.ext e).take qm) hn (by omega)
  have ML := sealM_len ks bs (cs.take q)
  have XL : (cs.drop q).length = 32 := by rw [List.length_drop, h'.len]; omega
  have z1 := h.le
  have z2 := h.cap
  have z3 := h'.le
  have z4 := h'.cap
  have nm : m - q = 32 := by omega
  have CUT : Hid (∀ W, Ext w W → Bs W (if d = q then B else B.map (·.add q)) 32 (d - q) (cs.drop q)) := fun W e => by
    have := (h'.ext e).cut (k := q) qm
    rwa [nm] at this
  have hd : (m : Int) - 32 = (q : Int) := by omega
  have q1 : q ≤ 100000 := by omega
  have q0 : decide ((q : Int) < 0) = false := decide_eq_false (by omega)
  have hw : IntKind.i64.wrap (q : Int) = (q : Int) := IntWalk.i64_in _ (by omega)
  replace hq := Lib.hid hq
  replace nm := Lib.hid nm
  clear h h'
  generalize sealM ks bs (cs.take q) = M at *
  generalize sealT ks (cs.take q) = T at *
  generalize cs.drop q = xs at *
  obtain ⟨B', hB'⟩ : ∃ B', B' = (if d = q then B else B.map (·.add q)) := ⟨_, rfl⟩
  obtain ⟨d', hd'⟩ : ∃ d', d' = d - q := ⟨_, rfl⟩
  rw [← hB', ← hd'] at CUT
  replace hB' := Lib.hid hB'
  replace hd' := Lib.hid hd'
  have s1 : ((strL M).toList == (strL xs).toList) = !b := by
    rw [r5toList, r5toList, ← hb, Bool.not_not, Bool.eq_iff_iff]
    simp
  clear hb
  have KS : (cellsOf ks).toArray.size = 32 := by simp [cellsOf_len, hk]
  have MS : (cellsOf M).toArray.size = 32 := by simp [cellsOf_len, ML]
  have M1 := cellsOf_one M
  have ha2 := key_alloc
  have hz2 := zeros32_size
  generalize zeros32 = Z at *
  replace s1 := Lib.hid s1
  have P0 : Hid (∀ s, Ext (w.alloc (Obj.cells (cellsOf ks).toArray 23)) s → Ky s w.heap.size ks ∧ Ext w s) := fun s e => ⟨(Ky.boxed w hk).ext e, ((Ext.refl w).alloc _).trans e⟩
  go_enter Tryd.func26, Tryd.ntmps26
  go_upto_region 4 with fail
  refine wp_gen (fun W => ∀ s, Ext W s → Ky s w.heap.size ks ∧ Ext w s) P0.out ?_
  clear P0
  rintro w0 P0
  have zw := heap_lt (P0 _ (Ext.refl _)).1.1
  replace P0 := Lib.hid P0
  go_cut [9] (fun s9 wx => ∃ g : Nat, s9 = .pointer (some ⟨g, 0, none⟩) ∧ Below w0.heap.size w0 wx ∧ wx.heap[g]? = some (.cells (cellsOf M).toArray 23 (0, 0)) ∧ w0.heap.size ≤ g)
  case first =>
    refine wp_region_tree (R := Below w0.heap.size) (Below.refl _) (fun _ _ _ => Below.trans) (.rd 0 (.rd 1 (.rd 2 (.rd 3 (.rd 4 (.alt 5 (.alt 6 (.alt 7 .nil .stop) .stop) (.alt 6 (.alt 5 (.alt 7 .nil .stop) .stop) .stop))))))) [(0, 16, 16), (0, 17, 4), (0, 18, 8), (0, 19, 512), (12, 20, 786432), (19, 21, 1245184), (0, 10, 0), (127, 0, 2098176)] 8 (by kernel_rfl) (by kernel_rfl) (by kernel_rfl) rfl (by kernel_rfl) (by kernel_rfl) (fun _ _ d _ _ h => by cases d <;> exact h) ?_
    refine seqT_read (fun w' => w'.heap[w.heap.size]? = some (.cells (cellsOf ks).toArray 23 (0, 0))) (fun w' e => ((Below.block e w.heap.size zw).trans (P0.out _ (Ext.refl w0).drew).1.1)) _ (v := .agg (cellsOf ks).toArray) rfl (by rfl) (fun w' hF => exec_load_row rfl rfl hF rfl rfl (by rw [KS]; rfl)) ?_
    simp only [Act.put, List.setIfInBounds_toArray, List.set_cons_zero, List.set_cons_succ]
    iterate 3 (refine seqT_read (fun _ => True) (fun _ _ => trivial) _ (v := ?_) rfl ?_ ?_ ?_; rotate_left; (· rfl); (· intro w' hF; go_simp; (try with_reducible rfl)); simp only [Act.put, List.setIfInBounds_toArray, List.set_cons_zero, List.set_cons_succ])
    refine seqT_read (fun _ => True) (fun _ _ => trivial) _ (v := .slice B q d) rfl (by rfl) (fun w' _ => exec_to (k := q) rfl rfl rfl (by omega)) ?_
    simp only [Act.put, List.setIfInBounds_toArray, List.set_cons_zero, List.set_cons_succ]
    have SE : Hid (Ext w0 w0.drew) := (Ext.refl w0).drew
    generalize w0.drew = WC at *
    repeat' (first
      | exact seqT_stop
      | (refine seqT_do (i := 5) _ rfl ?_ ?_ (fun K1 hK1 => ?_)
         (· rfl)
         rotate_left
         go_simp
         refine (TAG.out _ (P0.out _ SE.out).2).mono ?_
         rintro e0 WC ⟨rfl, e⟩
         refine hK1.out _ _ (e.mono SE.out.size) ?_
         clear hK1 K1
         (try replace hL := Lib.hid ((e.block _ (heap_lt hL.out)).trans hL.out))
         replace SE := Lib.hid (SE.out.trans e)
         clear e
         (try simp only [Act.put, List.setIfInBounds_toArray, List.set_cons_zero, List.set_cons_succ])
         repeat (first | (refine seqT_read (fun _ => True) (fun _ _ => trivial) _ (v := ?_) rfl ?_ ?_ ?_; rotate_left; (· rfl); (· intro w' hF; go_simp; (try with_reducible rfl)); simp only [Act.put, List.setIfInBounds_toArray, List.set_cons_zero, List.set_cons_succ]) | (refine seqT_skip _ rfl ?_ ?_; (· rfl); simp only [Act.put, List.setIfInBounds_toArray, List.set_cons_zero, List.set_cons_succ]))
         skip)
      | (refine seqT_do (i := 6) _ rfl ?_ ?_ (fun K1 hK1 => ?_)
         (· rfl)
         rotate_left
         go_simp
         have e : Ext WC (WC.alloc (Obj.cells Z 23)) := (Ext.refl WC).alloc _
         obtain ⟨gL, hgL⟩ : ∃ g, g = WC.heap.size := ⟨_, rfl⟩
         have hL := Lib.hid (heap_alloc_new WC (Obj.cells Z 23))
         rw [← hgL] at hL ⊢
         have zl : w0.heap.size ≤ gL := by rw [hgL]; exact SE.out.size
         refine hK1.out _ _ (e.mono SE.out.size) ?_
         clear hK1 K1
         replace hgL := Lib.hid hgL
         replace SE := Lib.hid (SE.out.trans e)
         clear e
         generalize WC.alloc (Obj.cells Z 23) = WC at *
         (try simp only [Act.put, List.setIfInBounds_toArray, List.set_cons_zero, List.set_cons_succ])
         repeat (first | (refine seqT_read (fun _ => True) (fun _ _ => trivial) _ (v := ?_) rfl ?_ ?_ ?_; rotate_left; (· rfl); (· intro w' hF; go_simp; (try with_reducible rfl)); simp only [Act.put, List.setIfInBounds_toArray, List.set_cons_zero, List.set_cons_succ]) | (refine seqT_skip _ rfl ?_ ?_; (· rfl); simp only [Act.put, List.setIfInBounds_toArray, List.set_cons_zero, List.set_cons_succ]))
         skip)
      | (refine seqT_do (i := 7) _ rfl ?_ ?_ (fun K1 hK1 => ?_)
         (· rfl)
         rotate_left
         refine wp_store_row _ _ _ rfl gL (cellsOf M).toArray rfl rfl 23 Z hL.out (by rw [MS]; rfl) (by rw [MS]; exact hz2) M1 ?_
         refine hK1.out _ _ (below_setRow (Below.refl _ _) zl _) ?_
         clear hK1 K1
         have S1 : Hid (Below w0.heap.size w0 (WC.setRow gL (cellsOf M).toArray)) := below_setRow SE.out zl _
         have kx : Hid ((WC.setRow gL (cellsOf M).toArray).heap[gL]? = some (.cells (cellsOf M).toArray 23 (0, 0))) := setRow_heap _ _ _ _ _ _ hL.out
         (try simp only [Act.put, List.setIfInBounds_toArray, List.set_cons_zero, List.set_cons_succ])
         refine seqT_done ?_
         go_wp2_with fail
         go_meet
         exact ⟨gL, rfl, S1.out, kx.out, zl⟩))
  case rest =>
    obtain ⟨g, rfl, E1, kr, hg⟩ := hcut
    have bM : Hid (∀ s, Ext wc s → Bs s (some ⟨g, 0, none⟩) 32 32 M) := fun s e => (part_bs (t := 23) (p := []) (q := []) kr (by simp) rfl ML (by omega)).ext e
    have P1 : Hid (∀ s, Ext wc s → Ky s w.heap.size ks ∧ Ext w s) := fun s e => P0.out s (Below.trans E1 (e.mono E1.size))
    clear E1 kr hg P0 TAG
    cases b
    · obtain rfl : R = T := hR.out
      obtain rfl : er = 0 := hE.out
      clear hR hE
      go_wp2_with fail
      refine wp_region_seq (R := Ext) Ext.refl (fun _ _ _ => Ext.trans) [0, 1, 2, 3, 4, 5, 6] [] [(0, 22, 1024), (1, 23, 4194304), (0, 24, 8), (0, 25, 512), (12, 26, 50331648), (16, 27, 67108864), (34, 28, 142606336)] (by kernel_rfl) (by kernel_rfl) (by kernel_rfl) rfl (by kernel_rfl) (by kernel_rfl) (fun _ _ d _ _ h => by cases d <;> exact h) ?_
      iterate 4 (first | (refine seq_read _ (fun w' e => conv_bs (bM.out w' ((Ext.refl _).drew.trans e))) _ (v := ?_) rfl rfl (by rfl) ?_ ?_; rotate_left; (· intro w' hF; go_simp; (try with_reducible rfl)); simp only [Act.put, List.setIfInBounds_toArray, List.set_cons_zero, List.set_cons_succ]) | (refine seq_skip _ rfl rfl (by rfl) ?_; simp only [Act.put, List.setIfInBounds_toArray, List.set_cons_zero, List.set_cons_succ]))
      refine seq_read (fun _ => True) (fun _ _ => trivial) _ (v := .slice (if d = q then B else B.map (·.add q)) (m - q) (d - q)) rfl rfl (by rfl) (fun w' _ => exec_from rfl rfl rfl qm z3) ?_
      simp only [Act.put, List.setIfInBounds_toArray, List.set_cons_zero, List.set_cons_succ]
      rw [← hB'.out, ← hd'.out, nm.out]
      iterate 1 (first | (refine seq_read _ (fun w' e => conv_bs (CUT.out w' ((P1.out w' ((Ext.refl _).drew.trans e)).2))) _ (v := ?_) rfl rfl (by rfl) ?_ ?_; rotate_left; (· intro w' hF; go_simp; (try with_reducible rfl)); simp only [Act.put, List.setIfInBounds_toArray, List.set_cons_zero, List.set_cons_succ]) | (refine seq_skip _ rfl rfl (by rfl) ?_; simp only [Act.put, List.setIfInBounds_toArray, List.set_cons_zero, List.set_cons_succ]))
      have s1' : ((strL M).toList == (strL xs).toList) = true := s1.out
      generalize strL M = sM at *
      generalize strL xs = sX at *
      repeat (first | (refine seq_read (fun _ => True) (fun _ _ => trivial) _ (v := ?_) rfl rfl (by rfl) ?_ ?_; rotate_left; (· intro w' hF; go_simp; (try with_reducible rfl)); simp only [Act.put, List.setIfInBounds_toArray, List.set_cons_zero, List.set_cons_succ]) | (refine seq_skip _ rfl rfl (by rfl) ?_; simp only [Act.put, List.setIfInBounds_toArray, List.set_cons_zero, List.set_cons_succ]))
      refine seq_done ?_
      have P2 : Hid (∀ s, Ext wc.drew s → Ky s w.heap.size ks ∧ Ext w s) := fun s e => P1.out s ((Ext.refl _).drew.trans e)
      generalize wc.drew = w2 at *
      clear s1' s1 bM P1 CUT
      have k0 := Lib.hid (P2.out _ (Ext.refl _)).1
      go_wp2_with fail
      refine wp_region_seq (R := Ext) Ext.refl (fun _ _ _ => Ext.trans) [0, 1, 2, 3, 4, 5, 6] [4] [(0, 29, 16), (0, 30, 8), (0, 31, 512), (6, 32, 3221225472), (9, 33, 4831838208), (31, 7, 8589934592), (63, 8, 0)] (by kernel_rfl) (by kernel_rfl) (by kernel_rfl) rfl (by kernel_rfl) (by kernel_rfl) (fun _ _ d _ _ h => by cases d <;> exact h) ?_
      refine seq_read (fun w' => w'.heap[w.heap.size]? = some (.cells (cellsOf ks).toArray 23 (0, 0))) (fun w' e => (P2.out w' ((Ext.refl _).drew.trans e)).1.1) _ (v := .agg (cellsOf ks).toArray) rfl rfl (by rfl) (fun w' hF => exec_load_row rfl rfl hF rfl rfl (by rw [KS]; rfl)) ?_
      simp only [Act.put, List.setIfInBounds_toArray, List.set_cons_zero, List.set_cons_succ]
      iterate 2 (first | (refine seq_read (fun _ => True) (fun _ _ => trivial) _ (v := ?_) rfl rfl (by rfl) ?_ ?_; rotate_left; (· intro w' hF; go_simp; (try with_reducible rfl)); simp only [Act.put, List.setIfInBounds_toArray, List.set_cons_zero, List.set_cons_succ]) | (refine seq_skip _ rfl rfl (by rfl) ?_; simp only [Act.put, List.setIfInBounds_toArray, List.set_cons_zero, List.set_cons_succ]))
      refine seq_read (fun _ => True) (fun _ _ => trivial) _ (v := .slice B q d) rfl rfl (by rfl) (fun w' _ => exec_to (k := q) rfl rfl rfl (by omega)) ?_
      simp only [Act.put, List.setIfInBounds_toArray, List.set_cons_zero, List.set_cons_succ]
      refine seq_do _ rfl rfl (by rfl) (fun K1 hK1 => ?_)
      go_simp
      refine (TURN.out _ (P2.out _ (Ext.refl _).drew).2).mono ?_
      rintro e w4 ⟨A4, n4, c4, rfl, o4, e4⟩
      have x4 := Lib.hid (P2.out _ ((Ext.refl _).drew.trans e4)).2
      refine hK1.out _ _ e4 ?_
      clear hK1 K1
      try simp only [Act.put, List.setIfInBounds_toArray, List.set_cons_zero, List.set_cons_succ]
      repeat (first | (refine seq_read (fun _ => True) (fun _ _ => trivial) _ (v := ?_) rfl rfl (by rfl) ?_ ?_; rotate_left; (· intro w' hF; go_simp; (try with_reducible rfl)); simp only [Act.put, List.setIfInBounds_toArray, List.set_cons_zero, List.set_cons_succ]) | (refine seq_skip _ rfl rfl (by rfl) ?_; simp only [Act.put, List.setIfInBounds_toArray, List.set_cons_zero, List.set_cons_succ]))
      refine seq_done ?_
      go_wp2_with fail
      go_ret2
      exact ⟨A4, n4, c4, rfl, o4.bs, x4.out⟩
    · obtain rfl : R = [] := hR.out
      obtain rfl : er = 4 := hE.out
      clear hR hE
      go_wp2_with fail
      refine wp_region_seq (R := Ext) Ext.refl (fun _ _ _ => Ext.trans) [0, 1, 2, 3, 4, 5, 6] [] [(0, 22, 1024), (1, 23, 4194304), (0, 24, 8), (0, 25, 512), (12, 26, 50331648), (16, 27, 67108864), (34, 28, 142606336)] (by kernel_rfl) (by kernel_rfl) (by kernel_rfl) rfl (by kernel_rfl) (by kernel_rfl) (fun _ _ d _ _ h => by cases d <;> exact h) ?_
      iterate 4 (first | (refine seq_read _ (fun w' e => conv_bs (bM.out w' ((Ext.refl _).drew.trans e))) _ (v := ?_) rfl rfl (by rfl) ?_ ?_; rotate_left; (· intro w' hF; go_simp; (try with_reducible rfl)); simp only [Act.put, List.setIfInBounds_toArray, List.set_cons_zero, List.set_cons_succ]) | (refine seq_skip _ rfl rfl (by rfl) ?_; simp only [Act.put, List.setIfInBounds_toArray, List.set_cons_zero, List.set_cons_succ]))
      refine seq_read (fun _ => True) (fun _ _ => trivial) _ (v := .slice (if d = q then B else B.map (·.add q)) (m - q) (d - q)) rfl rfl (by rfl) (fun w' _ => exec_from rfl rfl rfl qm z3) ?_
      simp only [Act.put, List.setIfInBounds_toArray, List.set_cons_zero, List.set_cons_succ]
      rw [← hB'.out, ← hd'.out, nm.out]
      iterate 1 (first | (refine seq_read _ (fun w' e => conv_bs (CUT.out w' ((P1.out w' ((Ext.refl _).drew.trans e)).2))) _ (v := ?_) rfl rfl (by rfl) ?_ ?_; rotate_left; (· intro w' hF; go_simp; (try with_reducible rfl)); simp only [Act.put, List.setIfInBounds_toArray, List.set_cons_zero, List.set_cons_succ]) | (refine seq_skip _ rfl rfl (by rfl) ?_; simp only [Act.put, List.setIfInBounds_toArray, List.set_cons_zero, List.set_cons_succ]))
      have s1' : ((strL M).toList == (strL xs).toList) = false := s1.out
      generalize strL M = sM at *
      generalize strL xs = sX at *
      repeat (first | (refine seq_read (fun _ => True) (fun _ _ => trivial) _ (v := ?_) rfl rfl (by rfl) ?_ ?_; rotate_left; (· intro w' hF; go_simp; (try with_reducible rfl)); simp only [Act.put, List.setIfInBounds_toArray, List.set_cons_zero, List.set_cons_succ]) | (refine seq_skip _ rfl rfl (by rfl) ?_; simp only [Act.put, List.setIfInBounds_toArray, List.set_cons_zero, List.set_cons_succ]))
      refine seq_done ?_
      have P2 : Hid (∀ s, Ext wc.drew s → Ky s w.heap.size ks ∧ Ext w s) := fun s e => P1.out s ((Ext.refl _).drew.trans e)
      generalize wc.drew = w2 at *
      clear s1' s1 bM P1 CUT
      have k0 := Lib.hid (P2.out _ (Ext.refl _)).1
      go_wp2_with fail
      go_ret2
      exact ⟨none, 0, 0, rfl, Bs.nil _, (P2.out _ (Ext.refl _)).2⟩
end Go.Proofs.YthdjojindijmnaaDoor
