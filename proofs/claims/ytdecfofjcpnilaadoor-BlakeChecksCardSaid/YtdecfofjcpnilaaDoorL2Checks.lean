/-
  BlakeChecks: just one tag is that of bytes by a key.
-/
import Derived.Test.YtdecfofjcpnilaaDoorAwake2
import Derived.Test.YtdecfofjcpnilaaDoorFlip
namespace Go.Proofs.YtdecfofjcpnilaaDoor
open Go.ChangeShapes Go.WideShapes Go.ChangeAt Go.RowKit Go.Deep

theorem checks_out {A A' : Option Addr} {n c m d : Nat} {ks bs ts : List UInt8} {w : World} (h : Bs w A n c ks) (h' : Bs w A' m d bs) (hq : 100 < n ∨ 1500 < m) {tg : TypeId × Nat × Nat} (hG : Gl w tg) :
    Calls Tryd.prog 4 #[.slice A n c, .slice A' m d, .agg (cellsOf ts).toArray] w fun e w' => e = .returned (.bool true) ∧ Ext w w' := by
  have h1 := h.le
  have h2 := h.cap
  have h3 := h'.le
  have h4 := h'.cap
  have AW : Hid (∀ W, Ext w W → _) := fun W e => awake_calls (hG.ext e)
  clear hG
  generalize (cellsOf ts).toArray = T
  by_cases q1 : 100 < n
  · have q1' : decide ((100 : Int) < (n : Int)) = true := by simp; omega
    clear hq
    go_enter Tryd.func4, Tryd.ntmps4
    go_wp2_with fail
    refine (AW.out _ ((Ext.refl w).alloc _)).mono ?_
    rintro e w1 ⟨rfl, e1⟩
    go_wp2_with fail
    go_ret
    exact ⟨rfl, ((Ext.refl w).alloc _).trans e1⟩
  · have q1' : decide ((100 : Int) < (n : Int)) = false := by simp; omega
    have q2' : decide ((1500 : Int) < (m : Int)) = true := by simp; omega
    clear hq
    go_enter Tryd.func4, Tryd.ntmps4
    go_wp2_with fail
    refine (AW.out _ ((Ext.refl w).alloc _)).mono ?_
    rintro e w1 ⟨rfl, e1⟩
    go_wp2_with fail
    go_ret
    exact ⟨rfl, ((Ext.refl w).alloc _).trans e1⟩

set_option maxRecDepth 100000 in
set_option maxHeartbeats 2000000 in
theorem checks_long {A A' : Option Addr} {n c m d : Nat} {ks bs ts : List UInt8} {w : World} (h : Bs w A n c ks) (h' : Bs w A' m d bs) (lt : ts.length = 32) (hn : 32 < n) (hn' : n ≤ 100) (hm : m ≤ 1500) {tg : TypeId × Nat × Nat} (hG : Gl w tg) :
    Calls Tryd.prog 4 #[.slice A n c, .slice A' m d, .agg (cellsOf ts).toArray] w fun e w' => e = .returned (.bool true) ∧ Ext w w' := by
  have h1 := h.le
  have h2 := h.cap
  have h3 := h'.le
  have h4 := h'.cap
  have AW : Hid (∀ W, Ext w W → _) := fun W e => awake_calls (hG.ext e)
  have MAC : Hid (∀ W, Ext w W → Calls Tryd.prog 8 #[.slice A n c, .slice A' m d] W fun e w' => e = .returned (.tuple #[.agg (cellsOf (List.replicate 32 0)).toArray, .int .i64 1]) ∧ Ext W w') := fun W e => mac_long (h.ext e) (h'.ext e) hn
  have CHK : Hid (∀ W, Ext w W → Calls Tryd.prog 12 #[.slice A n c, .slice A' m d, .agg (cellsOf ts).toArray] W fun e w' => e = .returned (.int .i64 1) ∧ Ext W w') := fun W e => check_long (h.ext e) (h'.ext e) lt hn
  clear hG
  have q1' : decide ((100 : Int) < (n : Int)) = false := by simp; omega
  have q2' : decide ((1500 : Int) < (m : Int)) = false := by simp; omega
  have q3' : decide ((32 : Int) < (n : Int)) = true := by simp; omega
  have hal : ∀ w, (zeroValue 25).run Tryd.prog w = .ok (.agg (cellsOf (List.replicate 32 0)).toArray) w := fun w => by rw [zeros32_cells]; exact key_alloc w
  have KT : Hid (∀ w : World, Ky (w.alloc (.cells (cellsOf ts).toArray 25)) w.heap.size ts) := fun w => Ky.boxed w lt
  have TS : (cellsOf ts).toArray.size = 32 := by simp [cellsOf_len, lt]
  have ZL : (List.replicate 32 (0 : UInt8)).length = 32 := by simp
  generalize List.replicate 32 (0 : UInt8) = zs at *
  have ZS : (cellsOf zs).toArray.size = 32 := by simp [cellsOf_len, ZL]
  have Z1 := cellsOf_one zs
  generalize hT : (cellsOf ts).toArray = T at *
  replace hT := Lib.hid hT
  go_enter Tryd.func4, Tryd.ntmps4
  go_wp2_with fail
  refine (AW.out _ ((Ext.refl w).alloc _)).mono ?_
  rintro e w1 ⟨rfl, e1⟩
  have K1 := Lib.hid ((KT.out w).ext e1)
  have E1 : Hid (Ext w w1) := ((Ext.refl w).alloc _).trans e1
  clear AW KT e1
  go_wp2_with fail
  refine (MAC.out _ E1.out).mono ?_
  rintro e w2 ⟨rfl, e2⟩
  go_upto_region 5 with (refine wpList_store_row rfl 25 _ _ rfl w2.heap.size (cellsOf zs).toArray rfl rfl 25 _ (by with_reducible exact heap_alloc_new _ _) (by rw [ZS]; rfl) rfl Z1 ?_)
  refine wp_gen (fun W => Ext w W ∧ Ky W w.heap.size ts ∧ Ky W w2.heap.size zs) ⟨(E1.out.trans e2).trans (Ext.newRow _ _ _), K1.out.ext (e2.trans (Ext.newRow _ _ _)), Ky.new _ ZL⟩ ?_
  rintro W ⟨eW, kt, kz⟩
  replace eW := Lib.hid eW
  replace kt := Lib.hid kt
  replace kz := Lib.hid kz
  clear e2 K1 E1 MAC
  rw [← hT.out] at CHK TS ⊢
  go_wp2_with (refine wpList_load_rowW rfl 25 _ rfl w.heap.size rfl 25 (cellsOf ts).toArray (0, 0) _ kt.out.1 rfl rfl (by rw [TS]; rfl) ?_)
  refine (CHK.out _ eW.out).mono ?_
  rintro e w4 ⟨rfl, e4⟩
  replace kz := Lib.hid (kz.out.ext e4)
  go_wp2_with (first
    | refine wpList_load_rowW rfl 25 _ rfl w2.heap.size rfl 25 (cellsOf zs).toArray (0, 0) _ kz.out.1 rfl rfl (by rw [ZS]; rfl) ?_
    | refine wpList_eql_key rfl _ _ _ rfl zs zs rfl rfl ZL ZL ?_)
  go_ret
  exact ⟨rfl, eW.out.trans e4⟩

set_option maxRecDepth 100000 in
set_option maxHeartbeats 4000000 in
theorem checks_main {A A' : Option Addr} {n c m d : Nat} {ks bs ts : List UInt8} {w : World} (h : Bs w A n c ks) (h' : Bs w A' m d bs) (lt : ts.length = 32) (hn : n ≤ 32) (hm : m ≤ 1500) {tg : TypeId × Nat × Nat} (hG : Gl w tg) :
    Calls Tryd.prog 4 #[.slice A n c, .slice A' m d, .agg (cellsOf ts).toArray] w fun e w' => e = .returned (.bool true) ∧ Ext w w' := by
  have h1 := h.le
  have h2 := h.cap
  have h3 := h'.le
  have h4 := h'.cap
  have AW : Hid (∀ W, Ext w W → _) := fun W e => awake_calls (hG.ext e)
  have MAC : Hid (∀ W, Ext w W → Calls Tryd.prog 8 #[.slice A n c, .slice A' m d] W fun e w' => e = .returned (.tuple #[.agg (cellsOf (macL ks bs)).toArray, .int .i64 0]) ∧ Ext W w') := fun W e => mac_calls (h.ext e) (h'.ext e) hn (hG.ext e)
  have CHK : Hid (∀ W us, us.length = 32 → Ext w W → Calls Tryd.prog 12 #[.slice A n c, .slice A' m d, .agg (cellsOf us).toArray] W fun e w' => e = .returned (.int .i64 (checkE (macL ks bs) us)) ∧ Ext W w') := fun W us lu e => check_calls (h.ext e) (h'.ext e) lu hn (hG.ext e)
  clear hG
  have ML := macL_len ks bs
  generalize macL ks bs = ms at *
  have q1' : decide ((100 : Int) < (n : Int)) = false := by simp; omega
  have q2' : decide ((1500 : Int) < (m : Int)) = false := by simp; omega
  have hal := key_alloc
  have hz0 := zeros32_size
  generalize zeros32 = Z at *
  have KT : Hid (∀ w : World, Ky (w.alloc (.cells (cellsOf ts).toArray 25)) w.heap.size ts) := fun w => Ky.boxed w lt
  have TS : (cellsOf ts).toArray.size = 32 := by simp [cellsOf_len, lt]
  have MS : (cellsOf ms).toArray.size = 32 := by simp [cellsOf_len, ML]
  have M1 := cellsOf_one ms
  obtain ⟨j, hj⟩ : ∃ j, j = bt ts 0 % 32 := ⟨_, rfl⟩
  obtain ⟨k, hk⟩ : ∃ k, k = bt ts 1 % 8 := ⟨_, rfl⟩
  have j32 : j < 32 := by omega
  have k8 : k < 8 := by omega
  have FL := (flip_len ms j k).trans ML
  have FS : (cellsOf (flip ms j k)).toArray.size = 32 := by simp [cellsOf_len, FL]
  generalize hT : (cellsOf ts).toArray = T at *
  replace hT := Lib.hid hT
  replace hj := Lib.hid hj
  replace hk := Lib.hid hk
  go_enter Tryd.func4, Tryd.ntmps4
  go_wp2_with fail
  refine (AW.out _ ((Ext.refl w).alloc _)).mono ?_
  rintro e w1 ⟨rfl, e1⟩
  have K1 := Lib.hid ((KT.out w).ext e1)
  have E1 : Hid (Ext w w1) := ((Ext.refl w).alloc _).trans e1
  clear AW KT e1
  go_wp2_with fail
  refine (MAC.out _ E1.out).mono ?_
  rintro e w2 ⟨rfl, e2⟩
  go_upto_region 5 with (refine wpList_store_row rfl 25 _ _ rfl w2.heap.size (cellsOf ms).toArray rfl rfl 25 _ (by with_reducible exact heap_alloc_new _ _) (by rw [MS]; rfl) (by rw [MS]; exact hz0) M1 ?_)
  refine wp_gen (fun W => Ext w W ∧ Ky W w.heap.size ts ∧ Ky W w2.heap.size ms) ⟨(E1.out.trans e2).trans (Ext.newRow _ _ _), K1.out.ext (e2.trans (Ext.newRow _ _ _)), Ky.new _ ML⟩ ?_
  rintro W ⟨eW, kt, km⟩
  replace eW := Lib.hid eW
  replace kt := Lib.hid kt
  replace km := Lib.hid km
  clear e2 K1 E1 MAC
  rw [← hT.out] at TS ⊢
  go_upto_region 8 with (first
    | (refine wpList_load_row rfl 25 _ rfl w2.heap.size rfl 25 (cellsOf ms).toArray (0, 0) _ km.out.1 rfl rfl (by rw [MS]; rfl) ?_; simp only [Act.put, List.setIfInBounds_toArray, List.set_cons_zero, List.set_cons_succ])
    | (refine wpList_store_row rfl 25 _ _ rfl W.heap.size (cellsOf ms).toArray rfl rfl 25 _ (by with_reducible exact heap_alloc_new _ _) (by rw [MS]; rfl) (by rw [MS]; exact hz0) M1 ?_; simp only [Act.put, List.setIfInBounds_toArray, List.set_cons_zero, List.set_cons_succ]))
  refine wp_gen (fun W' => Ext W W' ∧ Ky W' W.heap.size ms) ⟨Ext.newRow _ _ _, Ky.new _ ML⟩ ?_
  rintro w3 ⟨e3, kb⟩
  replace e3 := Lib.hid e3
  replace kb := Lib.hid kb
  have KEEP : Hid (∀ w', Ext w3 w' → w'.cell? ⟨w.heap.size, 0, none⟩ = some (.int .u8 (bt ts 0 : Int)) ∧ w'.cell? ⟨w.heap.size, 1, none⟩ = some (.int .u8 (bt ts 1 : Int)) ∧ w'.cell? ⟨W.heap.size, j, none⟩ = some (.int .u8 (bt ms j : Int))) := fun w' e => ⟨(kt.out.ext (e3.out.trans e)).cell (by omega), (kt.out.ext (e3.out.trans e)).cell (by omega), (kb.out.ext e).cell j32⟩
  have cf := kb.out.frozen j
  have cb := kb.out.cell j32
  have z0 := bt_lt ts 0
  have z1 := bt_lt ts 1
  have f1 : IntKind.i64.wrap (bt ts 0 : Int) = (bt ts 0 : Int) := IntWalk.i64_in _ (by omega)
  have f2 : Int.tmod (bt ts 0 : Int) 32 = (j : Int) := by rw [Int.tmod_eq_emod_of_nonneg (by omega), hj.out]; omega
  have f3 : Int.tmod (bt ts 1 : Int) 8 = (k : Int) := by rw [Int.tmod_eq_emod_of_nonneg (by omega), hk.out]; omega
  have i1 : (j : Int) < 32 := by omega
  refine wp_region_seqZ (R := Ext) Ext.refl (fun _ _ _ => Ext.trans) 12 [0, 1, 2, 3, 4, 5, 6, 7, 8, 9, 10, 11, 12] [12] [(0, 50, 64), (1, 51, 1125899906842624), (2, 52, 2251799813685248), (4, 53, 4503599627370496), (8, 54, 9007199254743040), (16, 55, 18014398509481984), (0, 56, 64), (64, 57, 72057594037927936), (128, 58, 144115188075855872), (256, 59, 288230376151711744), (544, 60, 612489549322387456), (2047, 61, 9007199254743040), (4095, 0, 3458764513820540928)] (by kernel_rfl) (by kernel_rfl) (by kernel_rfl) rfl (by kernel_rfl) (by kernel_rfl) (by kernel_rfl) (fun _ _ d _ _ h => by cases d <;> exact h) ?_
  repeat (refine seqZ_read _ (fun w' e => KEEP.out w' ((Ext.refl _).drew.trans e)) _ (v := ?_) rfl rfl (by rfl) ?_ ?_; rotate_left; (· intro w' hF; go_simp; (try with_reducible rfl)); simp only [Act.put, List.setIfInBounds_toArray, List.set_cons_zero, List.set_cons_succ])
  refine seqZ_do _ rfl rfl (by rfl) (fun K1 hK1 => ?_)
  go_simp
  refine hK1.out _ _ (.inl rfl) ?_
  clear hK1 K1
  refine seqZ_done ?_
  rw [flip_int k8]
  refine gen_q (fun W' => Ext w W' ∧ Ky W' w.heap.size ts ∧ Ky W' w2.heap.size ms ∧ Ky W' W.heap.size (flip ms j k)) ⟨?_, ?_, ?_, (kb.out.flip j32 k8).ext (Ext.refl _).drew⟩ ?_
  · exact Ext.drew (Ext.setCell (eW.out.trans e3.out) eW.out.size _)
  · refine Ky.ext ⟨?_, lt⟩ (Ext.refl _).drew
    exact (Below.heap_setCell _ _ _ _ (Nat.ne_of_lt (heap_lt kt.out.1))).trans (kt.out.ext e3.out).1
  · refine Ky.ext ⟨?_, ML⟩ (Ext.refl _).drew
    exact (Below.heap_setCell _ _ _ _ (Nat.ne_of_lt (heap_lt km.out.1))).trans (km.out.ext e3.out).1
  clear KEEP cf cb f1 f2 f3 i1 e3 kb km kt
  rintro w4 ⟨E4, kt, km, kb⟩
  replace E4 := Lib.hid E4
  replace kt := Lib.hid kt
  replace km := Lib.hid km
  replace kb := Lib.hid kb
  have C1 : Hid (∀ W, Ext w W → Calls Tryd.prog 12 #[.slice A n c, .slice A' m d, .agg (cellsOf ms).toArray] W fun e w' => e = .returned (.int .i64 0) ∧ Ext W w') := fun W e => by
    have := CHK.out W ms ML e
    rwa [checkE_pos rfl] at this
  have C2 : Hid (∀ W, Ext w W → Calls Tryd.prog 12 #[.slice A n c, .slice A' m d, .agg (cellsOf (flip ms j k)).toArray] W fun e w' => e = .returned (.int .i64 4) ∧ Ext W w') := fun W e => by
    have := CHK.out W (flip ms j k) FL e
    rwa [checkE_neg (flip_ne (by omega) k8)] at this
  have C3 : Hid (∀ W, Ext w W → Calls Tryd.prog 12 #[.slice A n c, .slice A' m d, .agg (cellsOf ts).toArray] W fun e w' => e = .returned (.int .i64 (checkE ms ts)) ∧ Ext W w') := fun W e => CHK.out W ts lt e
  clear CHK
  generalize flip ms j k = fs at *
  by_cases hq : ts = ms
  · have hqd : Hid (decide (ts = ms) = true) := by unfold Hid; simpa using hq
    rw [checkE_pos hq.symm] at C3
    clear hq
    go_wp2_with (first
      | (refine wpList_load_rowW rfl 25 _ rfl w.heap.size rfl 25 (cellsOf ts).toArray (0, 0) _ kt.out.1 rfl rfl (by rw [TS]; rfl) ?_; simp only [Act.put, List.setIfInBounds_toArray, List.set_cons_zero, List.set_cons_succ])
      | (refine wpList_load_rowW rfl 25 _ rfl w2.heap.size rfl 25 (cellsOf ms).toArray (0, 0) _ km.out.1 rfl rfl (by rw [MS]; rfl) ?_; simp only [Act.put, List.setIfInBounds_toArray, List.set_cons_zero, List.set_cons_succ])
      | (refine wpList_load_rowW rfl 25 _ rfl W.heap.size rfl 25 (cellsOf fs).toArray (0, 0) _ kb.out.1 rfl rfl (by rw [FS]; rfl) ?_; simp only [Act.put, List.setIfInBounds_toArray, List.set_cons_zero, List.set_cons_succ])
      | (refine wpList_eql_keyB rfl _ _ _ rfl ts ms true hqd.out rfl rfl lt ML ?_; simp only [Act.put, List.setIfInBounds_toArray, List.set_cons_zero, List.set_cons_succ]))
    refine (C1.out _ E4.out).mono ?_
    rintro e w5 ⟨rfl, e5⟩
    replace kt := Lib.hid (kt.out.ext e5)
    replace km := Lib.hid (km.out.ext e5)
    replace kb := Lib.hid (kb.out.ext e5)
    go_wp2_with (first
      | (refine wpList_load_rowW rfl 25 _ rfl w.heap.size rfl 25 (cellsOf ts).toArray (0, 0) _ kt.out.1 rfl rfl (by rw [TS]; rfl) ?_; simp only [Act.put, List.setIfInBounds_toArray, List.set_cons_zero, List.set_cons_succ])
      | (refine wpList_load_rowW rfl 25 _ rfl w2.heap.size rfl 25 (cellsOf ms).toArray (0, 0) _ km.out.1 rfl rfl (by rw [MS]; rfl) ?_; simp only [Act.put, List.setIfInBounds_toArray, List.set_cons_zero, List.set_cons_succ])
      | (refine wpList_load_rowW rfl 25 _ rfl W.heap.size rfl 25 (cellsOf fs).toArray (0, 0) _ kb.out.1 rfl rfl (by rw [FS]; rfl) ?_; simp only [Act.put, List.setIfInBounds_toArray, List.set_cons_zero, List.set_cons_succ])
      | (refine wpList_eql_keyB rfl _ _ _ rfl ts ms true hqd.out rfl rfl lt ML ?_; simp only [Act.put, List.setIfInBounds_toArray, List.set_cons_zero, List.set_cons_succ]))
    refine (C2.out _ (E4.out.trans e5)).mono ?_
    rintro e w6 ⟨rfl, e6⟩
    replace kt := Lib.hid (kt.out.ext e6)
    replace km := Lib.hid (km.out.ext e6)
    replace kb := Lib.hid (kb.out.ext e6)
    go_wp2_with (first
      | (refine wpList_load_rowW rfl 25 _ rfl w.heap.size rfl 25 (cellsOf ts).toArray (0, 0) _ kt.out.1 rfl rfl (by rw [TS]; rfl) ?_; simp only [Act.put, List.setIfInBounds_toArray, List.set_cons_zero, List.set_cons_succ])
      | (refine wpList_load_rowW rfl 25 _ rfl w2.heap.size rfl 25 (cellsOf ms).toArray (0, 0) _ km.out.1 rfl rfl (by rw [MS]; rfl) ?_; simp only [Act.put, List.setIfInBounds_toArray, List.set_cons_zero, List.set_cons_succ])
      | (refine wpList_load_rowW rfl 25 _ rfl W.heap.size rfl 25 (cellsOf fs).toArray (0, 0) _ kb.out.1 rfl rfl (by rw [FS]; rfl) ?_; simp only [Act.put, List.setIfInBounds_toArray, List.set_cons_zero, List.set_cons_succ])
      | (refine wpList_eql_keyB rfl _ _ _ rfl ts ms true hqd.out rfl rfl lt ML ?_; simp only [Act.put, List.setIfInBounds_toArray, List.set_cons_zero, List.set_cons_succ]))
    refine (C3.out _ (E4.out.trans (e5.trans e6))).mono ?_
    rintro e w7 ⟨rfl, e7⟩
    go_wp2_with fail
    go_ret
    exact ⟨rfl, E4.out.trans (e5.trans (e6.trans e7))⟩
  · have hqd : Hid (decide (ts = ms) = false) := by unfold Hid; simpa using hq
    rw [checkE_neg (fun q => hq q.symm)] at C3
    clear hq
    go_wp2_with (first
      | (refine wpList_load_rowW rfl 25 _ rfl w.heap.size rfl 25 (cellsOf ts).toArray (0, 0) _ kt.out.1 rfl rfl (by rw [TS]; rfl) ?_; simp only [Act.put, List.setIfInBounds_toArray, List.set_cons_zero, List.set_cons_succ])
      | (refine wpList_load_rowW rfl 25 _ rfl w2.heap.size rfl 25 (cellsOf ms).toArray (0, 0) _ km.out.1 rfl rfl (by rw [MS]; rfl) ?_; simp only [Act.put, List.setIfInBounds_toArray, List.set_cons_zero, List.set_cons_succ])
      | (refine wpList_load_rowW rfl 25 _ rfl W.heap.size rfl 25 (cellsOf fs).toArray (0, 0) _ kb.out.1 rfl rfl (by rw [FS]; rfl) ?_; simp only [Act.put, List.setIfInBounds_toArray, List.set_cons_zero, List.set_cons_succ])
      | (refine wpList_eql_keyB rfl _ _ _ rfl ts ms false hqd.out rfl rfl lt ML ?_; simp only [Act.put, List.setIfInBounds_toArray, List.set_cons_zero, List.set_cons_succ]))
    refine (C1.out _ E4.out).mono ?_
    rintro e w5 ⟨rfl, e5⟩
    replace kt := Lib.hid (kt.out.ext e5)
    replace km := Lib.hid (km.out.ext e5)
    replace kb := Lib.hid (kb.out.ext e5)
    go_wp2_with (first
      | (refine wpList_load_rowW rfl 25 _ rfl w.heap.size rfl 25 (cellsOf ts).toArray (0, 0) _ kt.out.1 rfl rfl (by rw [TS]; rfl) ?_; simp only [Act.put, List.setIfInBounds_toArray, List.set_cons_zero, List.set_cons_succ])
      | (refine wpList_load_rowW rfl 25 _ rfl w2.heap.size rfl 25 (cellsOf ms).toArray (0, 0) _ km.out.1 rfl rfl (by rw [MS]; rfl) ?_; simp only [Act.put, List.setIfInBounds_toArray, List.set_cons_zero, List.set_cons_succ])
      | (refine wpList_load_rowW rfl 25 _ rfl W.heap.size rfl 25 (cellsOf fs).toArray (0, 0) _ kb.out.1 rfl rfl (by rw [FS]; rfl) ?_; simp only [Act.put, List.setIfInBounds_toArray, List.set_cons_zero, List.set_cons_succ])
      | (refine wpList_eql_keyB rfl _ _ _ rfl ts ms false hqd.out rfl rfl lt ML ?_; simp only [Act.put, List.setIfInBounds_toArray, List.set_cons_zero, List.set_cons_succ]))
    refine (C2.out _ (E4.out.trans e5)).mono ?_
    rintro e w6 ⟨rfl, e6⟩
    replace kt := Lib.hid (kt.out.ext e6)
    replace km := Lib.hid (km.out.ext e6)
    replace kb := Lib.hid (kb.out.ext e6)
    go_wp2_with (first
      | (refine wpList_load_rowW rfl 25 _ rfl w.heap.size rfl 25 (cellsOf ts).toArray (0, 0) _ kt.out.1 rfl rfl (by rw [TS]; rfl) ?_; simp only [Act.put, List.setIfInBounds_toArray, List.set_cons_zero, List.set_cons_succ])
      | (refine wpList_load_rowW rfl 25 _ rfl w2.heap.size rfl 25 (cellsOf ms).toArray (0, 0) _ km.out.1 rfl rfl (by rw [MS]; rfl) ?_; simp only [Act.put, List.setIfInBounds_toArray, List.set_cons_zero, List.set_cons_succ])
      | (refine wpList_load_rowW rfl 25 _ rfl W.heap.size rfl 25 (cellsOf fs).toArray (0, 0) _ kb.out.1 rfl rfl (by rw [FS]; rfl) ?_; simp only [Act.put, List.setIfInBounds_toArray, List.set_cons_zero, List.set_cons_succ])
      | (refine wpList_eql_keyB rfl _ _ _ rfl ts ms false hqd.out rfl rfl lt ML ?_; simp only [Act.put, List.setIfInBounds_toArray, List.set_cons_zero, List.set_cons_succ]))
    refine (C3.out _ (E4.out.trans (e5.trans e6))).mono ?_
    rintro e w7 ⟨rfl, e7⟩
    go_wp2_with fail
    go_ret
    exact ⟨rfl, E4.out.trans (e5.trans (e6.trans e7))⟩

theorem blakeChecks_calls {A A' : Option Addr} {n c m d : Nat} {ks bs ts : List UInt8} {w : World} (h : Bs w A n c ks) (h' : Bs w A' m d bs) (lt : ts.length = 32) {tg : TypeId × Nat × Nat} (hG : Gl w tg) :
    Calls Tryd.prog 4 #[.slice A n c, .slice A' m d, .agg (cellsOf ts).toArray] w fun e w' => e = .returned (.bool true) ∧ Ext w w' := by
  by_cases hq : 100 < n ∨ 1500 < m
  · exact checks_out h h' hq hG
  · by_cases hn : 32 < n
    · exact checks_long h h' lt hn (by omega) (by omega) hG
    · exact checks_main h h' lt (by omega) (by omega) hG
end Go.Proofs.YtdecfofjcpnilaaDoor
