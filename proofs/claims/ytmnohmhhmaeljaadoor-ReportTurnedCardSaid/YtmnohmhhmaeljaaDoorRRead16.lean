import Derived.Test.YtmnohmhhmaeljaaDoorPkG
import Derived.Test.YtmnohmhhmaeljaaDoorRead16
import Derived.Test.YtmnohmhhmaeljaaDoorFree
/-
  The document's Read of a stamp.
-/
namespace Go.Proofs.YtmnohmhhmaeljaaDoor
open Go.ChangeShapes Go.WideShapes Go.ChangeAt Go.RowKit Go.Deep
set_option maxRecDepth 100000

theorem st_set_cm {ep f t tm : Int} {cm cm' tg : List UInt8} {k : Nat} {v : Value} (lc : cm.length = 32) (hk : k < 32) (h : (cellsOf cm).set k v = cellsOf cm') : (stC ep f t tm cm tg).set (4 + k) v = stC ep f t tm cm' tg := by
  unfold stC
  rw [List.set_append_right _ _ (by simp), List.set_append_left _ _ (by simp [cellsOf_len, lc]; omega)]
  rw [show 4 + k - [Value.int .i64 ep, .int .i64 f, .int .i64 t, .int .i64 tm].length = k by simp, h]
theorem st_set_tg {ep f t tm : Int} {cm tg tg' : List UInt8} {k : Nat} {v : Value} (lc : cm.length = 32) (h : (cellsOf tg).set k v = cellsOf tg') : (stC ep f t tm cm tg).set (36 + k) v = stC ep f t tm cm tg' := by
  unfold stC
  rw [List.set_append_right _ _ (by simp; omega), List.set_append_right _ _ (by simp [cellsOf_len, lc]; omega)]
  rw [show 36 + k - [Value.int .i64 ep, .int .i64 f, .int .i64 t, .int .i64 tm].length - (cellsOf cm).length = k by simp [cellsOf_len, lc]; omega, h]
theorem st_get_cm {ep f t tm : Int} {cm tg : List UInt8} {k : Nat} (lc : cm.length = 32) (hk : k < 32) : (stC ep f t tm cm tg)[4 + k]? = some (.int .u8 (bt cm k : Int)) := by
  unfold stC
  rw [List.getElem?_append_right (by simp), List.getElem?_append_left (by simp [cellsOf_len, lc]; omega)]
  rw [show 4 + k - [Value.int .i64 ep, .int .i64 f, .int .i64 t, .int .i64 tm].length = k by simp, cellsOf_get (by omega)]
theorem st_get_tg {ep f t tm : Int} {cm tg : List UInt8} {k : Nat} (lc : cm.length = 32) (lg : tg.length = 32) (hk : k < 32) : (stC ep f t tm cm tg)[36 + k]? = some (.int .u8 (bt tg k : Int)) := by
  unfold stC
  rw [List.getElem?_append_right (by simp; omega), List.getElem?_append_right (by simp [cellsOf_len, lc]; omega)]
  rw [show 36 + k - [Value.int .i64 ep, .int .i64 f, .int .i64 t, .int .i64 tm].length - (cellsOf cm).length = k by simp [cellsOf_len, lc]; omega, cellsOf_get (by omega)]
theorem stamp_built4 {ep f t tm : Int} : Tryd.prog.built 26 [(0, .int .i64 ep), (1, .int .i64 f), (2, .int .i64 t), (3, .int .i64 tm)] = some (stC ep f t tm (List.replicate 32 0) (List.replicate 32 0)).toArray := by
  have h : ∃ pl : Nat → Option (Nat × Nat), (pl 0 = some (0, 1) ∧ pl 1 = some (1, 1) ∧ pl 2 = some (2, 1) ∧ pl 3 = some (3, 1)) ∧ ∀ ps, Tryd.prog.built 26 ps = Instr.fill pl zSm.C.toArray ps := ⟨(#[(0, 1), (1, 1), (2, 1), (3, 1), (4, 32), (36, 32)][·]?), ⟨rfl, rfl, rfl, rfl⟩, fun ps => by kernel_rfl⟩
  obtain ⟨pl, ⟨h0, h1, h2, h3⟩, hp⟩ := h
  have e : zSm.C = .int .i64 0 :: .int .i64 0 :: .int .i64 0 :: .int .i64 0 :: (cellsOf (List.replicate 32 0) ++ cellsOf (List.replicate 32 0)) := rfl
  rw [hp, e]
  unfold stC
  generalize cellsOf (List.replicate 32 0) = Z at *
  have s0 : ∀ ps, Instr.fill pl (.int .i64 0 :: .int .i64 0 :: .int .i64 0 :: .int .i64 0 :: (Z ++ Z) : List Value).toArray ((0, .int .i64 ep) :: ps) = Instr.fill pl (.int .i64 ep :: .int .i64 0 :: .int .i64 0 :: .int .i64 0 :: (Z ++ Z) : List Value).toArray ps := fun ps => (fill_step h0 rfl (by simp)).trans rfl
  have s1 : ∀ ps, Instr.fill pl (.int .i64 ep :: .int .i64 0 :: .int .i64 0 :: .int .i64 0 :: (Z ++ Z) : List Value).toArray ((1, .int .i64 f) :: ps) = Instr.fill pl (.int .i64 ep :: .int .i64 f :: .int .i64 0 :: .int .i64 0 :: (Z ++ Z) : List Value).toArray ps := fun ps => (fill_step h1 rfl (by simp)).trans rfl
  have s2 : ∀ ps, Instr.fill pl (.int .i64 ep :: .int .i64 f :: .int .i64 0 :: .int .i64 0 :: (Z ++ Z) : List Value).toArray ((2, .int .i64 t) :: ps) = Instr.fill pl (.int .i64 ep :: .int .i64 f :: .int .i64 t :: .int .i64 0 :: (Z ++ Z) : List Value).toArray ps := fun ps => (fill_step h2 rfl (by simp)).trans rfl
  have s3 : ∀ ps, Instr.fill pl (.int .i64 ep :: .int .i64 f :: .int .i64 t :: .int .i64 0 :: (Z ++ Z) : List Value).toArray ((3, .int .i64 tm) :: ps) = Instr.fill pl (.int .i64 ep :: .int .i64 f :: .int .i64 t :: .int .i64 tm :: (Z ++ Z) : List Value).toArray ps := fun ps => (fill_step h3 rfl (by simp)).trans rfl
  rw [s0, s1, s2, s3]
  rfl
theorem strL_toList16 (xs : List UInt8) : (strL xs).toList = xs := by
  rw [ByteArray.toList_eq]
  rfl
/-- The stamp of bytes, half read. -/
def rdP (b : List UInt8) (k : Nat) : Sm := ⟨(numN b 4 : Nat), (numN (b.drop 4) 1 : Nat), (numN (b.drop 5) 1 : Nat), (numN (b.drop 6) 4 : Nat), partK (b.drop 10) k, partK (b.drop 42) k⟩
theorem rdP_full (b : List UInt8) : rdP b 32 = rdS b := by unfold rdP rdS; rw [partK_full, partK_full]
theorem rd_end {b : List UInt8} (h : 74 ≤ b.length) : ((rdS b).valid = false → bytesE (rdS b) = 1 ∧ readE16 b = 2 ∧ readS16 b = zSm) ∧ ((rdS b).valid = true → bytesE (rdS b) = 0 ∧ (b.length = 74 → bytesS (rdS b) = b ∧ readE16 b = 0 ∧ readS16 b = rdS b) ∧ (b.length ≠ 74 → bytesS (rdS b) ≠ b ∧ readE16 b = 2 ∧ readS16 b = zSm)) := by
  obtain ⟨_, R1, R2, R3⟩ := read_facts (b := b)
  refine ⟨fun hv => ⟨by unfold bytesE; rw [hv]; rfl, ?_⟩, fun hv => ⟨by unfold bytesE; rw [hv]; rfl, fun l => ⟨bytes_rdS l hv, (R3 l hv).2, (R3 l hv).1⟩, fun l => ⟨fun q => ?_, ?_⟩⟩⟩
  · rcases Nat.lt_or_ge 74 b.length with q | q
    · exact ⟨(R1 q).2, (R1 q).1⟩
    · have := R2 (by omega) hv
      exact ⟨this.2, this.1⟩
  · have := bytesS_len (rdS_ok h) hv
    rw [q] at this
    exact l this
  · have := R1 (by omega)
    exact ⟨this.2, this.1⟩
set_option maxHeartbeats 8000000 in
theorem rread16_calls {w : World} {n c : Nat} {A : Option Addr} {b : List UInt8} (hb : Bs w A n c b) (hn : n ≤ 1000000) :
    Calls Tryd.prog 60 #[.slice A n c] w fun e w' => e = .returned (.tuple #[.agg (readS16 b).C.toArray, .int .i64 (readE16 b)]) ∧ Ext w w' := by
  have lb := hb.1
  have hle := hb.le
  have hcap := hb.cap
  have hal := stamp_alloc16
  have BZ := Lib.hid stamp_built0
  have L_Z := Sm.C_len zSm_ok
  have O_Z := one_cells zSm.one
  have R0 : Hid (n < 74 → readS16 b = zSm ∧ readE16 b = 3) := fun h => read_facts.1 (by omega)
  have CV : Hid (∀ (W : World) A n c (ys : List UInt8), Bs W A n c ys → (convert 22 9 (.slice A n c)).run Tryd.prog W = .ok (.string (strL ys)) W) := fun W A n c ys h => conv_bs h
  obtain ⟨ZS, hZS⟩ : ∃ ZS, ZS = zSm.C := ⟨_, rfl⟩
  rw [← hZS] at hal BZ L_Z O_Z
  have S_Z : ZS.toArray.size = 68 := by rw [List.size_toArray, L_Z]
  have ZR : Hid (∀ s, s = zSm → s.C.toArray = ZS.toArray) := fun s z => by rw [z, hZS]
  clear hZS
  obtain ⟨r, hr⟩ : ∃ x, x = w.heap.size := ⟨_, rfl⟩
  have B0 : Hid (Cb (w.alloc (.cells ZS.toArray 26)) r 26 ZS ∧ Ext w (w.alloc (.cells ZS.toArray 26))) := by rw [hr]; exact ⟨Cb.new _ _ _, (Ext.refl w).alloc _⟩
  rcases Nat.lt_or_ge n 74 with q1 | q1
  · have u1 : decide ((n : Int) < 74) = true := decide_eq_true (by omega)
    have z1 := Lib.hid (R0.out q1)
    clear R0 hb
    go_enter Tryd.func60, Tryd.ntmps60
    go_upto_region 1 with fail
    refine wp_gen (fun W => Cb W r 26 ZS ∧ Ext w W) B0.out ?_
    rw [← hr]
    have wr_ : w.heap.size ≤ r := Nat.le_of_eq hr.symm
    clear B0
    replace hr := Lib.hid hr
    rintro w0 ⟨k0, x0⟩
    replace k0 := Lib.hid k0
    have F : Hid (Ext w (w0.setRow r ZS.toArray)) := below_setRow x0 wr_ _
    clear x0
    go_wp2_with (first
      | (refine wpList_build_as rfl _ _ rfl ZS.toArray (by simp only [List.map_toArray, List.map_nil]; exact BZ.out) ?_; go_frame)
      | (refine wpList_store_row rfl 26 _ _ rfl r ZS.toArray rfl rfl 26 ZS.toArray k0.out (by rw [S_Z]; rfl) rfl O_Z ?_; simp only [Act.put]))
    (try simp only [Exit.inBlock, Exit.then])
    refine bodyPost_ret (results_row_tmp rfl _ _ r 26 ZS.toArray (0, 0) _ _ rfl rfl (setRow_heap _ _ _ _ _ _ k0.out) rfl rfl (by rw [S_Z]; rfl)) rfl ?_
    exact ⟨by rw [z1.out.2, ZR.out _ z1.out.1]; rfl, F.out⟩
  have u1 : decide ((n : Int) < 74) = false := decide_eq_false (by omega)
  obtain ⟨bb, off, rfl, hbb, hcl⟩ := hb.pos (by omega)
  have RD := Lib.hid (rd_end (b := b) (by omega))
  have l10 : 32 ≤ (b.drop 10).length := by rw [List.length_drop]; omega
  have l42 : 32 ≤ (b.drop 42).length := by rw [List.length_drop]; omega
  have okP : Hid (∀ k, k ≤ 32 → (rdP b k).ok) := fun k hk => ⟨partK_len l10 hk, partK_len l42 hk⟩
  have P0 : Hid ((rdP b 0).C = stC (numN b 4 : Nat) (numN (b.drop 4) 1 : Nat) (numN (b.drop 5) 1 : Nat) (numN (b.drop 6) 4 : Nat) (List.replicate 32 0) (List.replicate 32 0)) := rfl
  have P1 : Hid (∀ k, k < 32 → ∃ L, (rdP b k).C.set (4 + k) (.int .u8 (bt b (10 + k) : Int)) = L ∧ L.length = 68 ∧ (∃ v, (rdP b k).C[4 + k]? = some v) ∧ (∃ v, L[36 + k]? = some v) ∧ L.set (36 + k) (.int .u8 (bt b (42 + k) : Int)) = (rdP b (k + 1)).C) := fun k hk => by
    have q1 := partK_step l10 hk
    have q2 := partK_step l42 hk
    rw [bt_drop] at q1 q2
    have p1 := partK_len l10 (k := k) (by omega)
    have p2 := partK_len l10 (k := k + 1) (by omega)
    have p3 := partK_len l42 (k := k) (by omega)
    exact ⟨_, st_set_cm p1 hk q1, stC_len p2 p3 _ _ _ _, ⟨_, st_get_cm p1 hk⟩, ⟨_, st_get_tg p2 p3 hk⟩, st_set_tg p2 q2⟩
  have PF := Lib.hid (rdP_full b)
  have O1 : Hid (∀ W, Ext w W → Calls Tryd.prog 61 #[.slice (some ⟨bb, off, none⟩) 4 c] W fun e w' => e = .returned (.int .u64 (numN b 4 : Int)) ∧ Ext W w') := fun W e => by
    have := refOfHigh_calls (m := 4) ((hb.take (k := 4) (by omega)).ext e) (by omega) (Nat.le_refl _) (.inl rfl)
    rw [List.take_take] at this
    exact this.mono fun e w' q => ⟨q.1, by rw [q.2]; exact Ext.refl _⟩
  have O2 : Hid (∀ W, Ext w W → Calls Tryd.prog 61 #[.slice (some ⟨bb, off + 6, none⟩) 4 (c - 6)] W fun e w' => e = .returned (.int .u64 (numN (b.drop 6) 4 : Int)) ∧ Ext W w') := fun W e => by
    have := refOfHigh_calls (m := 4) ((hb.sub (i := 6) (k := 4) (by omega)).ext e) (by omega) (Nat.le_refl _) (.inl rfl)
    rw [List.take_take] at this
    exact this.mono fun e w' q => ⟨q.1, by rw [q.2]; exact Ext.refl _⟩
  have C0 : Hid (∀ W, Ext w W → W.cell? ⟨bb, off + 4, none⟩ = some (.int .u8 (numN (b.drop 4) 1 : Int)) ∧ W.cell? ⟨bb, off + 5, none⟩ = some (.int .u8 (numN (b.drop 5) 1 : Int))) := fun W e => ⟨by
    rw [numN_bt (by rw [List.length_drop]; omega), bt_drop]; exact (e.cell hbb).trans (hcl 4 (by omega)), by
    rw [numN_bt (by rw [List.length_drop]; omega), bt_drop]; exact (e.cell hbb).trans (hcl 5 (by omega))⟩
  have CK : Hid (∀ W k, Ext w W → k < 74 → W.cell? ⟨bb, off + k, none⟩ = some (.int .u8 (bt b k : Int))) := fun W k e hk => (e.cell hbb).trans (hcl k (by omega))
  have BY : Hid (∀ W : World, Calls Tryd.prog 49 #[.agg (rdS b).C.toArray] W fun e w' => ∃ A n c, e = .returned (.tuple #[.slice A n c, .int .i64 (bytesE (rdS b))]) ∧ Own W.heap.size w' A n c (bytesS (rdS b)) ∧ Ext W w') := fun W => rbytes16_calls (rdS_ok (by omega))
  have BB : Hid (∀ W, Ext w W → Bs W (some ⟨bb, off, none⟩) n c b) := fun W e => hb.ext e
  have lt0 := numN_lt (xs := b) (k := 4) (by omega)
  have lt1 := numN1_lt (b.drop 4)
  have lt2 := numN1_lt (b.drop 5)
  have lt3 := numN_lt (xs := b.drop 6) (k := 4) (by omega)
  have B4 := Lib.hid (fun ep f t tm : Int => stamp_built4 (ep := ep) (f := f) (t := t) (tm := tm))
  have c1 : IntKind.i64.wrap (numN b 4 : Int) = (numN b 4 : Int) := IntWalk.i64_in _ (by omega)
  have c2 : IntKind.i64.wrap (numN (b.drop 4) 1 : Int) = (numN (b.drop 4) 1 : Int) := IntWalk.i64_in _ (by omega)
  have c3 : IntKind.i64.wrap (numN (b.drop 5) 1 : Int) = (numN (b.drop 5) 1 : Int) := IntWalk.i64_in _ (by omega)
  have c4 : IntKind.i64.wrap (numN (b.drop 6) 4 : Int) = (numN (b.drop 6) 4 : Int) := IntWalk.i64_in _ (by omega)
  have lC : Hid (∀ k, k ≤ 32 → (rdP b k).C.length = 68) := fun k hk => Sm.C_len (okP.out k hk)
  have oC : Hid (∀ k, (rdP b k).C.toArray.all (·.oneCell') = true) := fun k => one_cells (rdP b k).one
  obtain ⟨fC, hfC⟩ : ∃ f : Nat → List Value, f = fun k => (rdP b k).C := ⟨_, rfl⟩
  have e0 : ∀ k, (rdP b k).C = fC k := fun k => by rw [hfC]
  have PF2 : Hid (fC 32 = (rdS b).C) := by rw [← PF.out, hfC]; exact Lib.hid rfl
  simp only [e0] at P0 P1 lC oC
  clear hb hcl R0 hfC e0 okP PF
  obtain ⟨RE, hRE⟩ : ∃ r, r = readE16 b := ⟨_, rfl⟩
  obtain ⟨RS, hRS⟩ : ∃ r, r = readS16 b := ⟨_, rfl⟩
  rw [← hRE, ← hRS] at RD ⊢
  clear hRE hRS
  generalize rdS b = RR at *
  generalize numN b 4 = v0 at *
  generalize numN (b.drop 4) 1 = v1 at *
  generalize numN (b.drop 5) 1 = v2 at *
  generalize numN (b.drop 6) 4 = v3 at *
  have q2 : (4 : Int) ≤ (c : Int) := by omega
  have q3 : (10 : Int) ≤ (c : Int) := by omega
  have q4 : (4 : Int) < (n : Int) := by omega
  have q5 : (5 : Int) < (n : Int) := by omega
  have q6 : ¬ c = 6 := by omega
  have q7 : (10 : Int) ≤ (n : Int) := by omega
  go_enter Tryd.func60, Tryd.ntmps60
  go_upto_region 1 with fail
  refine wp_gen (fun W => Cb W r 26 ZS ∧ Ext w W) B0.out ?_
  rw [← hr]
  have wr_ : w.heap.size ≤ r := Nat.le_of_eq hr.symm
  clear B0
  replace hr := Lib.hid hr
  rintro w1 ⟨k0, x0⟩
  have Q1 : Hid (∀ s, Ext w1 s → Cb s r 26 ZS ∧ Ext w s) := fun s e => ⟨k0.ext e, x0.trans e⟩
  have rl := k0.lt
  clear k0 x0
  go_upto_region 3 with fail
  refine qgF (R := Ext) Ext.refl (fun _ _ _ => Ext.trans) [0, 1, 2, 3, 4, 5, 6, 7, 8, 9, 10, 11, 12, 13, 14, 15, 16, 17] [18] [0, 1, 3, 7, 0, 16, 48, 112, 0, 256, 768, 1792, 0, 4096, 12295, 28679, 65535, 0, 262143] [true, true, true, true, true, true, true, true, true, true, true, true, true, true, true, true, true, true, false] ?_
  refine free_det (fun _ => Ext.refl _) _ rfl (v := ?_) (d := 13) rfl rfl ?_ ?_
  rotate_left
  · intro a_ w_ hev hR hk
    have e0 : a_.eval (.tmp 0) = _ := hk 0 rfl
    clear hk
    generalize a_.eval = ev at *
    obtain ⟨hev1, hev2, hev3⟩ := hev
    go_simp
    (try with_reducible rfl)
  refine free_det (fun _ => Ext.refl _) _ rfl (v := ?_) (d := 14) rfl rfl ?_ ?_
  rotate_left
  · intro a_ w_ hev hR hk
    have e12 : a_.eval (.tmp 12) = _ := hk 12 rfl
    clear hk
    generalize a_.eval = ev at *
    obtain ⟨hev1, hev2, hev3⟩ := hev
    go_simp
    (try with_reducible rfl)
  refine free_step _ rfl (fun u _ => u = .int .u64 (v0 : Int)) (d := 15) rfl (fun _ _ _ h _ => h) rfl ?_ ?_
  · intro a_ w_ hev hR hk K1 hK1
    have e13 : a_.eval (.tmp 13) = _ := hk 13 rfl
    clear hk
    have f13 := ev_get.trans e13
    go_simp
    refine (O1.out _ (Q1.out w_ (Ext.trans (Ext.refl _).drew hR)).2).mono ?_
    rintro e_ w2_ ⟨rfl, x_⟩
    exact hK1.out _ _ x_ rfl
  refine free_det (fun _ => Ext.refl _) _ rfl (v := ?_) (d := 16) rfl rfl ?_ ?_
  rotate_left
  · intro a_ w_ hev hR hk
    have e14 : a_.eval (.tmp 14) = _ := hk 14 rfl
    clear hk
    generalize a_.eval = ev at *
    obtain ⟨hev1, hev2, hev3⟩ := hev
    go_simp
    (try with_reducible rfl)
  refine free_det (fun _ => Ext.refl _) _ rfl (v := ?_) (d := 17) rfl rfl ?_ ?_
  rotate_left
  · intro a_ w_ hev hR hk
    have e0 : a_.eval (.tmp 0) = _ := hk 0 rfl
    clear hk
    generalize a_.eval = ev at *
    obtain ⟨hev1, hev2, hev3⟩ := hev
    go_simp
    (try with_reducible rfl)
  refine free_det (fun _ => Ext.refl _) _ rfl (v := ?_) (d := 18) rfl rfl ?_ ?_
  rotate_left
  · intro a_ w_ hev hR hk
    have e16 : a_.eval (.tmp 16) = _ := hk 16 rfl
    clear hk
    generalize a_.eval = ev at *
    obtain ⟨hev1, hev2, hev3⟩ := hev
    go_simp
    (try with_reducible rfl)
  refine free_det (fun _ => Ext.refl _) _ rfl (v := ?_) (d := 19) rfl rfl ?_ ?_
  rotate_left
  · intro a_ w_ hev hR hk
    have e17 : a_.eval (.tmp 17) = _ := hk 17 rfl
    clear hk
    have hF := ((C0.out w_ (Q1.out w_ (Ext.trans (Ext.refl _).drew hR)).2).1)
    generalize a_.eval = ev at *
    obtain ⟨hev1, hev2, hev3⟩ := hev
    go_simp
    (try with_reducible rfl)
  refine free_det (fun _ => Ext.refl _) _ rfl (v := ?_) (d := 20) rfl rfl ?_ ?_
  rotate_left
  · intro a_ w_ hev hR hk
    have e18 : a_.eval (.tmp 18) = _ := hk 18 rfl
    clear hk
    generalize a_.eval = ev at *
    obtain ⟨hev1, hev2, hev3⟩ := hev
    go_simp
    (try with_reducible rfl)
  refine free_det (fun _ => Ext.refl _) _ rfl (v := ?_) (d := 21) rfl rfl ?_ ?_
  rotate_left
  · intro a_ w_ hev hR hk
    have e0 : a_.eval (.tmp 0) = _ := hk 0 rfl
    clear hk
    generalize a_.eval = ev at *
    obtain ⟨hev1, hev2, hev3⟩ := hev
    go_simp
    (try with_reducible rfl)
  refine free_det (fun _ => Ext.refl _) _ rfl (v := ?_) (d := 22) rfl rfl ?_ ?_
  rotate_left
  · intro a_ w_ hev hR hk
    have e20 : a_.eval (.tmp 20) = _ := hk 20 rfl
    clear hk
    generalize a_.eval = ev at *
    obtain ⟨hev1, hev2, hev3⟩ := hev
    go_simp
    (try with_reducible rfl)
  refine free_det (fun _ => Ext.refl _) _ rfl (v := ?_) (d := 23) rfl rfl ?_ ?_
  rotate_left
  · intro a_ w_ hev hR hk
    have e21 : a_.eval (.tmp 21) = _ := hk 21 rfl
    clear hk
    have hF := ((C0.out w_ (Q1.out w_ (Ext.trans (Ext.refl _).drew hR)).2).2)
    generalize a_.eval = ev at *
    obtain ⟨hev1, hev2, hev3⟩ := hev
    go_simp
    (try with_reducible rfl)
  refine free_det (fun _ => Ext.refl _) _ rfl (v := ?_) (d := 24) rfl rfl ?_ ?_
  rotate_left
  · intro a_ w_ hev hR hk
    have e22 : a_.eval (.tmp 22) = _ := hk 22 rfl
    clear hk
    generalize a_.eval = ev at *
    obtain ⟨hev1, hev2, hev3⟩ := hev
    go_simp
    (try with_reducible rfl)
  refine free_det (fun _ => Ext.refl _) _ rfl (v := ?_) (d := 25) rfl rfl ?_ ?_
  rotate_left
  · intro a_ w_ hev hR hk
    have e0 : a_.eval (.tmp 0) = _ := hk 0 rfl
    clear hk
    generalize a_.eval = ev at *
    obtain ⟨hev1, hev2, hev3⟩ := hev
    go_simp
    (try with_reducible rfl)
  refine free_det (fun _ => Ext.refl _) _ rfl (v := ?_) (d := 26) rfl rfl ?_ ?_
  rotate_left
  · intro a_ w_ hev hR hk
    have e24 : a_.eval (.tmp 24) = _ := hk 24 rfl
    clear hk
    generalize a_.eval = ev at *
    obtain ⟨hev1, hev2, hev3⟩ := hev
    go_simp
    (try with_reducible rfl)
  refine free_step _ rfl (fun u _ => u = .int .u64 (v3 : Int)) (d := 27) rfl (fun _ _ _ h _ => h) rfl ?_ ?_
  · intro a_ w_ hev hR hk K1 hK1
    have e25 : a_.eval (.tmp 25) = _ := hk 25 rfl
    clear hk
    have f25 := ev_get.trans e25
    go_simp
    refine (O2.out _ (Q1.out w_ (Ext.trans (Ext.refl _).drew hR)).2).mono ?_
    rintro e_ w2_ ⟨rfl, x_⟩
    exact hK1.out _ _ x_ rfl
  refine free_det (fun _ => Ext.refl _) _ rfl (v := ?_) (d := 28) rfl rfl ?_ ?_
  rotate_left
  · intro a_ w_ hev hR hk
    have e26 : a_.eval (.tmp 26) = _ := hk 26 rfl
    clear hk
    generalize a_.eval = ev at *
    obtain ⟨hev1, hev2, hev3⟩ := hev
    go_simp
    (try with_reducible rfl)
  refine free_det (fun _ => Ext.refl _) _ rfl (v := .agg (fC 0).toArray) (d := 29) rfl rfl ?_ ?_
  · intro a_ w_ hev hR hk
    have e15 : a_.eval (.tmp 15) = _ := hk 15 rfl
    have e19 : a_.eval (.tmp 19) = _ := hk 19 rfl
    have e23 : a_.eval (.tmp 23) = _ := hk 23 rfl
    have e27 : a_.eval (.tmp 27) = _ := hk 27 rfl
    exact (exec_build_as rfl (by simp only [List.map_toArray, List.map_cons, List.map_nil, e15, e19, e23, e27]; rw [P0.out]; exact B4.out _ _ _ _))
  refine free_new _ rfl (fun u w_ => ∃ g, u = .pointer (some ⟨g, 0, none⟩) ∧ w1.drew.heap.size ≤ g ∧ w_.heap[g]? = some (.cells ZS.toArray 26 (0, 0))) (d := 5) rfl (fun _ _ _ h e => by obtain ⟨g, h1, h2, h3⟩ := h; exact ⟨g, h1, h2, (e.block g (heap_lt h3)).trans h3⟩) rfl (by decide) (fun _ _ h => by obtain ⟨g, h1, h2, h3⟩ := h; subst h1; exact ⟨g, rfl, heap_lt h3⟩) ?_ ?_
  · intro a_ w_ hev hR hk K1 hK1
    go_simp
    exact hK1.out _ _ ((Ext.refl _).alloc _) ⟨_, rfl, hR.size, heap_alloc_new _ _⟩ (fun _ q => by cases q; exact Nat.le_refl _)
  intro v_ w2 hR hV_ hN_
  obtain ⟨hv17, hv16, hv15, hv14, hv13, hv12, hv11, hv10, hv9, hv8, hv7, hv6, hv5, hv4, hv3, hv2, hv1, hv0, _⟩ := hV_
  replace hv0 : v_ 0 = _ := hv0
  replace hv1 : v_ 1 = _ := hv1
  replace hv2 : v_ 2 = _ := hv2
  replace hv3 : v_ 3 = _ := hv3
  replace hv4 : v_ 4 = _ := hv4
  replace hv5 : v_ 5 = _ := hv5
  replace hv6 : v_ 6 = _ := hv6
  replace hv7 : v_ 7 = _ := hv7
  replace hv8 : v_ 8 = _ := hv8
  replace hv9 : v_ 9 = _ := hv9
  replace hv10 : v_ 10 = _ := hv10
  replace hv11 : v_ 11 = _ := hv11
  replace hv12 : v_ 12 = _ := hv12
  replace hv13 : v_ 13 = _ := hv13
  replace hv14 : v_ 14 = _ := hv14
  replace hv15 : v_ 15 = _ := hv15
  replace hv16 : v_ 16 = _ := hv16
  skip
  dsimp only [putE, dOpt]
  obtain ⟨g_17, hv17, gb_17, gc_17⟩ := hv17
  clear hN_
  rw [hv0, hv1, hv2, hv3, hv4, hv5, hv6, hv7, hv8, hv9, hv10, hv11, hv12, hv13, hv14, hv15, hv16, hv17]
  go_frame
  clear hv0 hv1 hv2 hv3 hv4 hv5 hv6 hv7 hv8 hv9 hv10 hv11 hv12 hv13 hv14 hv15 hv16 hv17
  refine any_more (z := 18) _ rfl rfl (by kernel_rfl) ?_
  intro K1 hK1
  refine wp_store_row _ _ _ rfl g_17 (fC 0).toArray rfl rfl 26 ZS.toArray gc_17 (by rw [List.size_toArray, lC.out 0 (by omega)]; rfl) (by rw [S_Z, List.size_toArray, lC.out 0 (by omega)]) (oC.out 0) ?_
  refine hK1.out _ _ ?_
  clear hK1 K1
  refine any_nil (by kernel_rfl) ?_
  have gl : r < g_17 := Nat.lt_of_lt_of_le rl gb_17
  refine gen_q (fun W => Cb W g_17 26 (fC 0) ∧ Cb W r 26 ZS ∧ Ext w W) ⟨setRow_heap _ _ _ _ _ _ gc_17, (setRow_other _ _ _ _ (by omega)).trans (Q1.out _ (Ext.trans (Ext.refl _).drew hR)).1, below_setRow (Q1.out _ (Ext.trans (Ext.refl _).drew hR)).2 (by omega) _⟩ ?_
  clear hR gc_17 gb_17
  generalize g_17 = g at *
  rintro w3 ⟨k1, k2, x3⟩
  replace k1 := Lib.hid k1
  replace k2 := Lib.hid k2
  replace x3 := Lib.hid x3
  clear O1 O2 C0 Q1 P0 B4
  go_wp2_with fail
  go_loopw [5] (fun iv W => ∃ k : Nat, k ≤ 32 ∧ iv = .int .i64 (k : Int) ∧ Cb W g 26 (fC k) ∧ Cb W r 26 ZS ∧ Ext w W) (fun iv _ => 32 - (intOf iv).toNat)
  case atStart => exact ⟨0, Nat.zero_le _, rfl, k1.out, k2.out, x3.out⟩
  case round =>
    clear k1 k2 x3
    obtain ⟨k, hk, rfl, k1, k2, x0⟩ := hrel
    by_cases hlt : k < 32
    · obtain ⟨k1_, hk1⟩ : ∃ x, x = 10 + k := ⟨_, rfl⟩
      obtain ⟨k2_, hk2⟩ : ∃ x, x = 42 + k := ⟨_, rfl⟩
      have g1 := CK.out wr (10 + k) x0 (by omega)
      obtain ⟨L, hL, L_L, ⟨o1, ho1⟩, ⟨o2, ho2⟩, hL2⟩ := P1.out k hlt
      have d1 : decide ((k : Int) < 32) = true := decide_eq_true (by omega)
      have z1 := k1.frozen (4 + k)
      have c1 := k1.cell ho1
      have t1 : (k : Int) < 32 := by omega
      have t2 : (k1_ : Int) < (n : Int) := by omega
      have t3 : (k2_ : Int) < (n : Int) := by omega
      have a1 : IntKind.i64.wrap (10 + (k : Int)) = (k1_ : Int) := (IntWalk.i64_in _ (by omega)).trans (by omega)
      have a2 : IntKind.i64.wrap (42 + (k : Int)) = (k2_ : Int) := (IntWalk.i64_in _ (by omega)).trans (by omega)
      have CK2 : Hid (∀ W, Ext w W → W.cell? ⟨bb, off + k2_, none⟩ = some (.int .u8 (bt b k2_ : Int))) := fun W e => CK.out W k2_ e (by omega)
      rw [← hk1] at hL g1
      rw [← hk2] at hL2
      replace hk1 := Lib.hid hk1
      replace hk2 := Lib.hid hk2
      have y1 : Hid (Cb (wr.setCell ⟨g, 4 + k, none⟩ (.int .u8 (bt b k1_ : Int))) g 26 L) := by have := k1.setCell (o := 4 + k) (v := .int .u8 (bt b k1_ : Int)); rwa [hL] at this
      have y2 : Hid (Cb (wr.setCell ⟨g, 4 + k, none⟩ (.int .u8 (bt b k1_ : Int))) r 26 ZS) := (grown_setCell8.block r (heap_lt k2) (fun q => by have := Option.some.inj q; omega)).trans k2
      have y3 : Hid (Ext w (wr.setCell ⟨g, 4 + k, none⟩ (.int .u8 (bt b k1_ : Int)))) := x0.setCell (by simp; omega) _
      clear k1 k2 x0 hL ho1
      go_upto_region 8 with fail
      refine wp_gen (fun W => Cb W g 26 L ∧ Cb W r 26 ZS ∧ Ext w W) ⟨y1.out, y2.out, y3.out⟩ ?_
      clear y1 y2 y3 c1 z1 g1 t2 a1
      rintro w4 ⟨k1, k2, x0⟩
      have g1 := CK2.out w4 x0
      have z1 := k1.frozen (36 + k)
      have c1 := k1.cell ho2
      have F : Hid (Cb (w4.setCell ⟨g, 36 + k, none⟩ (.int .u8 (bt b k2_ : Int))) g 26 (fC (k + 1)) ∧ Cb (w4.setCell ⟨g, 36 + k, none⟩ (.int .u8 (bt b k2_ : Int))) r 26 ZS ∧ Ext w (w4.setCell ⟨g, 36 + k, none⟩ (.int .u8 (bt b k2_ : Int)))) :=
        ⟨by have := k1.setCell (o := 36 + k) (v := .int .u8 (bt b k2_ : Int)); rwa [hL2] at this, (grown_setCell8.block r (heap_lt k2) (fun q => by have := Option.some.inj q; omega)).trans k2, x0.setCell (by simp; omega) _⟩
      clear k1 k2 x0 hL2 ho2
      go_wp2_with fail
      go_roundw
      case rel => exact ⟨k + 1, by omega, by go_num, F.out⟩
      case measure => simp [intOf]; omega
    · obtain rfl : k = 32 := by omega
      have L_C := lC.out 32 (by omega)
      have O_C := Lib.hid (oC.out 32)
      rw [PF2.out] at k1 L_C O_C
      obtain ⟨CC, hCC⟩ : ∃ CC, CC = RR.C := ⟨_, rfl⟩
      rw [← hCC] at k1 L_C O_C BY
      replace hCC := Lib.hid hCC
      have S_C : CC.toArray.size = 68 := by rw [List.size_toArray, L_C]
      replace k1 := Lib.hid k1
      replace k2 := Lib.hid k2
      replace x0 := Lib.hid x0
      clear CK P1 lC oC PF2
      go_wp2_with (first | ((with_reducible refine wpList_load_rowW (o := ⟨some 50, _, _, _, _, _⟩) ?_ 26 _ rfl g ?_ 26 CC.toArray (0, 0) _ ?_ Tryd.underlying26 ?_ ?_ ?_); (· rfl); (· rfl); (· exact k1.out); (· rfl); (· rw [S_C]; rfl); go_frame))
      refine (BY.out _).mono ?_
      rintro e w5 ⟨A5, n5, m5, rfl, o5, x5⟩
      have k1 := Lib.hid (k1.out.ext x5)
      have k2 := Lib.hid (k2.out.ext x5)
      have x6 := Lib.hid (x0.out.trans x5)
      have v5 := CV.out _ _ _ _ _ o5.bs
      have v6 := CV.out _ _ _ _ _ (BB.out _ x6.out)
      obtain ⟨D0, D1⟩ := RD.out
      clear BY o5 x5 x0 CV BB RD
      have F : Hid (Ext w (w5.setRow r ZS.toArray)) := below_setRow x6.out wr_ _
      rcases hv : RR.valid with _ | _
      · obtain ⟨f1, f2, f3⟩ := D0 hv
        rw [f1]
        replace f2 := Lib.hid f2
        replace f3 := Lib.hid f3
        clear D0 D1 hv f1
        go_wp2_with (first
          | (refine wpList_build_as rfl _ _ rfl ZS.toArray (by simp only [List.map_toArray, List.map_nil]; exact BZ.out) ?_; go_frame)
          | (refine wpList_store_row rfl 26 _ _ rfl r ZS.toArray rfl rfl 26 ZS.toArray k2.out (by rw [S_Z]; rfl) rfl O_Z ?_; simp only [Act.put]))
        (try simp only [Exit.inBlock, Exit.then])
        refine bodyPost_ret (results_row_tmp rfl _ _ r 26 ZS.toArray (0, 0) _ _ rfl rfl (setRow_heap _ _ _ _ _ _ k2.out) rfl rfl (by rw [S_Z]; rfl)) rfl ?_
        exact ⟨by rw [f2.out, ZR.out _ f3.out]; rfl, F.out⟩
      obtain ⟨f1, D2, D3⟩ := D1 hv
      rw [f1]
      clear D0 D1 hv f1
      by_cases hq : n = 74
      · obtain ⟨f1, f2, f3⟩ := D2 (by omega)
        subst hq
        rw [f1] at v5
        have u7 : ((strL b).toList == (strL b).toList) = true := by simp
        replace f2 := Lib.hid f2
        replace f3 := Lib.hid f3
        have F2 : Hid (Ext w (w5.setRow r CC.toArray)) := below_setRow x6.out wr_ _
        clear D2 D3 f1 F
        go_wp2_with (first
          | ((with_reducible refine wpList_load_rowW (o := ⟨some 64, _, _, _, _, _⟩) ?_ 26 _ rfl g ?_ 26 CC.toArray (0, 0) _ ?_ Tryd.underlying26 ?_ ?_ ?_); (· rfl); (· rfl); (· exact k1.out); (· rfl); (· rw [S_C]; rfl); go_frame)
          | (refine wpList_store_row rfl 26 _ _ rfl r CC.toArray rfl rfl 26 ZS.toArray k2.out (by rw [S_C]; rfl) (by rw [S_C, S_Z]) O_C.out ?_; simp only [Act.put]))
        (try simp only [Exit.inBlock, Exit.then])
        refine bodyPost_ret (results_row_tmp rfl _ _ r 26 CC.toArray (0, 0) _ _ rfl rfl (setRow_heap _ _ _ _ _ _ k2.out) rfl rfl (by rw [S_C]; rfl)) rfl ?_
        exact ⟨by rw [f2.out, f3.out, hCC.out]; rfl, F2.out⟩
      · obtain ⟨f1, f2, f3⟩ := D3 (by omega)
        have u7 : ((strL (bytesS RR)).toList == (strL b).toList) = false := by
          rw [beq_eq_false_iff_ne]
          intro q
          rw [strL_toList16, strL_toList16] at q
          exact f1 q
        replace f2 := Lib.hid f2
        replace f3 := Lib.hid f3
        clear D2 D3 f1
        generalize bytesS RR = bx at *
        go_wp2_with (first
          | (refine wpList_build_as rfl _ _ rfl ZS.toArray (by simp only [List.map_toArray, List.map_nil]; exact BZ.out) ?_; go_frame)
          | (refine wpList_store_row rfl 26 _ _ rfl r ZS.toArray rfl rfl 26 ZS.toArray k2.out (by rw [S_Z]; rfl) rfl O_Z ?_; simp only [Act.put]))
        (try simp only [Exit.inBlock, Exit.then])
        refine bodyPost_ret (results_row_tmp rfl _ _ r 26 ZS.toArray (0, 0) _ _ rfl rfl (setRow_heap _ _ _ _ _ _ k2.out) rfl rfl (by rw [S_Z]; rfl)) rfl ?_
        exact ⟨by rw [f2.out, ZR.out _ f3.out]; rfl, F.out⟩
end Go.Proofs.YtmnohmhhmaeljaaDoor
