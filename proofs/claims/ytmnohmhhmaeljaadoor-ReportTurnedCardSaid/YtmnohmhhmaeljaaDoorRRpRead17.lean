import Derived.Test.YtmnohmhhmaeljaaDoorPkG
import Derived.Test.YtmnohmhhmaeljaaDoorRRead16
import Derived.Test.YtmnohmhhmaeljaaDoorFree
/-
  The document's Read of a report (written by gen17rr.py).
-/
namespace Go.Proofs.YtmnohmhhmaeljaaDoor
open Go.ChangeShapes Go.WideShapes Go.ChangeAt Go.RowKit Go.Deep
set_option maxRecDepth 100000

theorem row_le : ∀ {l : List (List UInt8)} {x : List UInt8}, x ∈ l → x.length ≤ (joinL l).length
  | y :: l, x, h => by
    have e : joinL (y :: l) = row4 y ++ joinL l := by simp [joinL]
    rw [e, List.length_append, row4_len]
    rcases List.mem_cons.1 h with rfl | h
    · omega
    · have := row_le h; omega
theorem report_built4 {id whose : Int} {A : Option Addr} {n c : Nat} {SX : List Value} (hS : SX.length = 68) : Tryd.prog.built 28 [(0, .int .i64 id), (1, .int .i64 whose), (2, .slice A n c), (4, .agg SX.toArray)] = some (rpC id whose A n c (List.replicate 32 0) SX).toArray := by
  have h : ∃ pl : Nat → Option (Nat × Nat), (pl 0 = some (0, 1) ∧ pl 1 = some (1, 1) ∧ pl 2 = some (2, 1) ∧ pl 4 = some (35, 68)) ∧ ∀ ps, Tryd.prog.built 28 ps = Instr.fill pl zRC.toArray ps := ⟨(#[(0, 1), (1, 1), (2, 1), (3, 32), (35, 68)][·]?), ⟨rfl, rfl, rfl, rfl⟩, fun ps => by kernel_rfl⟩
  obtain ⟨pl, ⟨h0, h1, h2, h4⟩, hp⟩ := h
  have e : zRC = .int .i64 0 :: .int .i64 0 :: .slice none 0 0 :: (cellsOf (List.replicate 32 0) ++ zSm.C) := rfl
  have hZ : zSm.C.length = 68 := Sm.C_len zSm_ok
  have hO : (cellsOf (List.replicate 32 0)).length = 32 := by simp [cellsOf_len]
  rw [hp, e]
  unfold rpC
  generalize cellsOf (List.replicate 32 0) = Z at *
  generalize zSm.C = ZS at *
  have s0 : ∀ ps, Instr.fill pl (.int .i64 0 :: .int .i64 0 :: .slice none 0 0 :: (Z ++ ZS) : List Value).toArray ((0, .int .i64 id) :: ps) = Instr.fill pl (.int .i64 id :: .int .i64 0 :: .slice none 0 0 :: (Z ++ ZS) : List Value).toArray ps := fun ps => (fill_step h0 rfl (by simp)).trans rfl
  have s1 : ∀ ps, Instr.fill pl (.int .i64 id :: .int .i64 0 :: .slice none 0 0 :: (Z ++ ZS) : List Value).toArray ((1, .int .i64 whose) :: ps) = Instr.fill pl (.int .i64 id :: .int .i64 whose :: .slice none 0 0 :: (Z ++ ZS) : List Value).toArray ps := fun ps => (fill_step h1 rfl (by simp)).trans rfl
  have s2 : ∀ ps, Instr.fill pl (.int .i64 id :: .int .i64 whose :: .slice none 0 0 :: (Z ++ ZS) : List Value).toArray ((2, .slice A n c) :: ps) = Instr.fill pl (.int .i64 id :: .int .i64 whose :: .slice A n c :: (Z ++ ZS) : List Value).toArray ps := fun ps => (fill_step h2 rfl (by simp)).trans rfl
  have s4 : Instr.fill pl (.int .i64 id :: .int .i64 whose :: .slice A n c :: (Z ++ ZS) : List Value).toArray [(4, .agg SX.toArray)] = Instr.fill pl ([.int .i64 id, .int .i64 whose, .slice A n c] ++ (Z ++ SX) : List Value).toArray [] := by
    have q : (.int .i64 id :: .int .i64 whose :: .slice A n c :: (Z ++ ZS) : List Value) = ([.int .i64 id, .int .i64 whose, .slice A n c] ++ Z) ++ (ZS ++ []) := by simp
    rw [q, fill_step h4 (by rw [cells_agg]; simp [hS]) (by simp [hO, hZ]), cells_agg]
    have := splice_mid (p := [Value.int .i64 id, .int .i64 whose, .slice A n c] ++ Z) (y := ZS) (q := []) (z := SX) (off := 35) (by simp [hO]) (by rw [hZ, hS])
    rw [this]
    simp
  rw [s0, s1, s2, s4]
  rfl
theorem rp_set_op {id whose : Int} {A : Option Addr} {n c : Nat} {op op' : List UInt8} {st : List Value} {k : Nat} {v : Value} (lo : op.length = 32) (hk : k < 32) (h : (cellsOf op).set k v = cellsOf op') : (rpC id whose A n c op st).set (3 + k) v = rpC id whose A n c op' st := by
  unfold rpC
  rw [List.set_append_right _ _ (by simp), List.set_append_left _ _ (by simp [cellsOf_len, lo]; omega)]
  rw [show 3 + k - [Value.int .i64 id, .int .i64 whose, .slice A n c].length = k by simp, h]
theorem rp_get_op {id whose : Int} {A : Option Addr} {n c : Nat} {op : List UInt8} {st : List Value} {k : Nat} (lo : op.length = 32) (hk : k < 32) : (rpC id whose A n c op st)[3 + k]? = some (.int .u8 (bt op k : Int)) := by
  unfold rpC
  rw [List.getElem?_append_right (by simp), List.getElem?_append_left (by simp [cellsOf_len, lo]; omega)]
  rw [show 3 + k - [Value.int .i64 id, .int .i64 whose, .slice A n c].length = k by simp, cellsOf_get (by omega)]
set_option maxHeartbeats 16000000 in
theorem rread17_calls {w : World} {n c : Nat} {A : Option Addr} {b : List UInt8} (hb : Bs w A n c b) (hn : n ≤ 1000000) :
    Calls Tryd.prog 18 #[.slice A n c] w (RetRp (readRp b) (readRpE b) w) := by
  have PT : Hid (∀ (W : World), Ext w W → Calls Tryd.prog 59 #[.slice A n c] W (RetPartG (partL b) W)) := fun W e => refPart_calls (hb.ext e) hn
  have N3 : Hid (partL b = none → readRp b = zRm ∧ readRpE b = 3) := fun h => readR_none h
  have N2 : Hid (∀ l, partL b = some l → formR l = false → readRp b = zRm ∧ readRpE b = 2) := fun l h q => readR_bad h q
  have N0 : Hid (∀ l, partL b = some l → formR l = true → readRp b = rdR l ∧ readRpE b = 0) := fun l h q => readR_good h q
  have JB : Hid (∀ l, partL b = some l → ∀ x ∈ l, x.length ≤ 1000000) := fun l h x hx => by
    have h1 := row_le hx
    rw [join_part _ _ _ (Nat.lt_succ_self _) h, hb.len] at h1
    omega
  generalize readRp b = RM at *
  generalize readRpE b = RE at *
  have hal := report_alloc
  have hst := stamp_alloc16
  have BZ := Lib.hid report_built0
  have L_z := zRC_len
  have O_z := zRC_one
  obtain ⟨ZC, hZC⟩ : ∃ x, x = zRC := ⟨_, rfl⟩
  rw [← hZC] at hal BZ L_z O_z
  have S_z : ZC.toArray.size = 103 := by rw [List.size_toArray, L_z]
  have RZ : Hid (∀ RM RE er w w', RM = zRm → RE = er → Ext w w' → RetRp RM RE w (.returned (.tuple #[.agg ZC.toArray, .int .i64 er])) w') := by rw [hZC]; exact fun RM RE er w w' h1 h2 x => RetRp.zero h1 h2 x
  clear hZC hb
  have L_Z := Sm.C_len zSm_ok
  generalize zSm.C = ZS at *
  have S_Z : ZS.toArray.size = 68 := by rw [List.size_toArray, L_Z]
  clear L_Z
  obtain ⟨p, hp⟩ : ∃ x, x = w.heap.size := ⟨_, rfl⟩
  have Z0 : Hid (Cb (w.alloc (Obj.cells ZC.toArray 28)) p 28 ZC ∧ Ext w (w.alloc (Obj.cells ZC.toArray 28)) ∧ (w.alloc (Obj.cells ZC.toArray 28)).heap.size = p + 1) := by rw [hp]; exact ⟨Cb.new _ _ _, (Ext.refl w).alloc _, by rw [size_alloc]⟩
  have wp_ : w.heap.size ≤ p := Nat.le_of_eq hp.symm
  replace hp := Lib.hid hp
  go_enter Tryd.func18, Tryd.ntmps18
  go_upto_region 1 with fail
  refine wp_gen (fun W => Cb W p 28 ZC ∧ Ext w W ∧ W.heap.size = p + 1) Z0.out ?_
  rw [← hp.out]
  clear Z0 hp
  rintro w0 ⟨k0, x0, z0⟩
  have Q0 := Lib.hid (PT.out w0 x0)
  replace z0 := Lib.hid z0
  clear PT
  go_wp2_with fail
  refine Q0.out.mono ?_
  rintro e w1 hret
  clear Q0
  rcases hpb : partL b with _ | l
  · rw [hpb] at hret
    obtain ⟨A1, n1, c1, he, _, x1⟩ := hret
    replace he : e = .returned (.tuple #[.slice A1 n1 c1, .int .i64 3]) := he
    subst he
    have ZF := Lib.hid (N3.out hpb)
    have k1 := k0.ext x1
    have F : Hid (Ext w (w1.setRow p ZC.toArray)) := below_setRow (x0.trans x1) wp_ _
    clear N2 N0 N3 k0 x0 x1 hpb JB
    go_wp2_with (first
      | (refine wpList_build_as rfl _ _ rfl ZC.toArray (by simp only [List.map_toArray, List.map_nil]; exact BZ.out) ?_; go_frame)
      | (refine wpList_store_row rfl 28 _ _ rfl p ZC.toArray rfl rfl 28 ZC.toArray k1 (by rw [S_z]; rfl) rfl O_z ?_; simp only [Act.put]))
    (try simp only [Exit.inBlock, Exit.then])
    refine bodyPost_ret (results_row_tmp rfl _ _ p 28 ZC.toArray (0, 0) _ _ rfl rfl (setRow_heap _ _ _ _ _ _ k1) rfl rfl (by rw [S_z]; rfl)) rfl ?_
    exact RZ.out _ _ _ _ _ ZF.out.1 ZF.out.2 F.out
  rw [hpb] at hret
  obtain ⟨A1, n1, c1, he, o1, x1⟩ := hret
  replace he : e = .returned (.tuple #[.slice A1 n1 c1, .int .i64 0]) := he
  replace o1 : OwnG w0.heap.size w1 A1 n1 c1 l := o1
  rw [z0.out] at o1
  subst he
  replace N2 := Lib.hid (N2.out l hpb)
  replace N0 := Lib.hid (N0.out l hpb)
  replace JB := Lib.hid (JB.out l hpb)
  have FI : Hid (formR l = true ↔ _) := formR_iff
  have hln := o1.len
  replace k0 := Lib.hid (k0.ext x1)
  have X1 := Lib.hid (x0.trans x1)
  have hn1 := o1.rw.le
  have hn2 := o1.rw.cap
  clear N3 hpb z0 x0 x1
  by_cases h5 : ¬ (n1 = 5)
  · have u5 : ((n1 : Int) == 5) = false := by simp; omega
    have ZF := Lib.hid (N2.out (Bool.eq_false_iff.mpr fun q => by have := (FI.out.1 q).1; omega))
    have k1 := k0.out
    have F : Hid (Ext w (w1.setRow p ZC.toArray)) := below_setRow X1.out wp_ _
    clear N2 N0 FI o1 JB k0 X1
    go_wp2_with (first
      | (refine wpList_build_as rfl _ _ rfl ZC.toArray (by simp only [List.map_toArray, List.map_nil]; exact BZ.out) ?_; go_frame)
      | (refine wpList_store_row rfl 28 _ _ rfl p ZC.toArray rfl rfl 28 ZC.toArray k1 (by rw [S_z]; rfl) rfl O_z ?_; simp only [Act.put]))
    (try simp only [Exit.inBlock, Exit.then])
    refine bodyPost_ret (results_row_tmp rfl _ _ p 28 ZC.toArray (0, 0) _ _ rfl rfl (setRow_heap _ _ _ _ _ _ k1) rfl rfl (by rw [S_z]; rfl)) rfl ?_
    exact RZ.out _ _ _ _ _ ZF.out.1 ZF.out.2 F.out
  obtain rfl : n1 = 5 := Classical.not_not.1 h5
  obtain ⟨g, rfl, hg, hgl, hrow⟩ := o1.head (by omega)
  obtain ⟨A0, n0, c0, q0, b0⟩ := hrow 0 (by omega)
  obtain ⟨A1, n1, c1', q1, b1⟩ := hrow 1 (by omega)
  obtain ⟨A2, n2, c2, q2, b2⟩ := hrow 2 (by omega)
  obtain ⟨A3, n3, c3, q3, b3⟩ := hrow 3 (by omega)
  obtain ⟨A4, n4, c4, q4, b4⟩ := hrow 4 (by omega)
  have n4l : n4 ≤ 1000000 := by
    have h := JB.out (l.getD 4 []) (by rw [List.getD_eq_getElem?_getD, List.getElem?_eq_getElem (by omega), Option.getD_some]; exact List.getElem_mem _)
    rwa [b4.1.len] at h
  have l0 := b0.1.len
  have l1 := b1.1.len
  have l2 := b2.1.len
  have l3 := b3.1.len
  have l4 := b4.1.len
  have m0 := b0.1.cap
  have m0' := b0.1.le
  have m1 := b1.1.cap
  have m1' := b1.1.le
  have m3 := b3.1.cap
  have m3' := b3.1.le
  clear hrow o1 h5 JB
  by_cases h0 : ¬ (n0 = 4)
  · have v0 : ((n0 : Int) == 4) = false := by simp; omega
    have ZF := Lib.hid (N2.out (Bool.eq_false_iff.mpr fun q => by have := (FI.out.1 q).2.1; omega))
    have k1 := k0.out
    have F : Hid (Ext w (w1.setRow p ZC.toArray)) := below_setRow X1.out wp_ _
    clear N2 N0 FI k0 X1 b0 b1 b2 b3 b4
    go_wp2_with (first
      | (refine wpList_build_as rfl _ _ rfl ZC.toArray (by simp only [List.map_toArray, List.map_nil]; exact BZ.out) ?_; go_frame)
      | (refine wpList_store_row rfl 28 _ _ rfl p ZC.toArray rfl rfl 28 ZC.toArray k1 (by rw [S_z]; rfl) rfl O_z ?_; simp only [Act.put]))
    (try simp only [Exit.inBlock, Exit.then])
    refine bodyPost_ret (results_row_tmp rfl _ _ p 28 ZC.toArray (0, 0) _ _ rfl rfl (setRow_heap _ _ _ _ _ _ k1) rfl rfl (by rw [S_z]; rfl)) rfl ?_
    exact RZ.out _ _ _ _ _ ZF.out.1 ZF.out.2 F.out
  obtain rfl : n0 = 4 := Classical.not_not.1 h0
  clear h0
  by_cases h1 : ¬ (n1 = 1)
  · have v1 : ((n1 : Int) == 1) = false := by simp; omega
    have ZF := Lib.hid (N2.out (Bool.eq_false_iff.mpr fun q => by have := (FI.out.1 q).2.2.1; omega))
    have k1 := k0.out
    have F : Hid (Ext w (w1.setRow p ZC.toArray)) := below_setRow X1.out wp_ _
    clear N2 N0 FI k0 X1 b0 b1 b2 b3 b4
    go_wp2_with (first
      | (refine wpList_build_as rfl _ _ rfl ZC.toArray (by simp only [List.map_toArray, List.map_nil]; exact BZ.out) ?_; go_frame)
      | (refine wpList_store_row rfl 28 _ _ rfl p ZC.toArray rfl rfl 28 ZC.toArray k1 (by rw [S_z]; rfl) rfl O_z ?_; simp only [Act.put]))
    (try simp only [Exit.inBlock, Exit.then])
    refine bodyPost_ret (results_row_tmp rfl _ _ p 28 ZC.toArray (0, 0) _ _ rfl rfl (setRow_heap _ _ _ _ _ _ k1) rfl rfl (by rw [S_z]; rfl)) rfl ?_
    exact RZ.out _ _ _ _ _ ZF.out.1 ZF.out.2 F.out
  obtain rfl : n1 = 1 := Classical.not_not.1 h1
  clear h1
  by_cases h2 : ¬ (n3 = 32)
  · have v2 : ((n3 : Int) == 32) = false := by simp; omega
    have ZF := Lib.hid (N2.out (Bool.eq_false_iff.mpr fun q => by have := (FI.out.1 q).2.2.2.1; omega))
    have k1 := k0.out
    have F : Hid (Ext w (w1.setRow p ZC.toArray)) := below_setRow X1.out wp_ _
    clear N2 N0 FI k0 X1 b0 b1 b2 b3 b4
    go_wp2_with (first
      | (refine wpList_build_as rfl _ _ rfl ZC.toArray (by simp only [List.map_toArray, List.map_nil]; exact BZ.out) ?_; go_frame)
      | (refine wpList_store_row rfl 28 _ _ rfl p ZC.toArray rfl rfl 28 ZC.toArray k1 (by rw [S_z]; rfl) rfl O_z ?_; simp only [Act.put]))
    (try simp only [Exit.inBlock, Exit.then])
    refine bodyPost_ret (results_row_tmp rfl _ _ p 28 ZC.toArray (0, 0) _ _ rfl rfl (setRow_heap _ _ _ _ _ _ k1) rfl rfl (by rw [S_z]; rfl)) rfl ?_
    exact RZ.out _ _ _ _ _ ZF.out.1 ZF.out.2 F.out
  obtain rfl : n3 = 32 := Classical.not_not.1 h2
  clear h2
  obtain ⟨B1, o1, rfl, hB1, hc1⟩ := b1.1.pos (by omega)
  obtain ⟨B3, o3, rfl, hB3, hc3⟩ := b3.1.pos (by omega)
  obtain ⟨v0, hv0⟩ : ∃ v, v = numN (l.getD 0 []) 4 := ⟨_, rfl⟩
  obtain ⟨v1, hv1⟩ : ∃ v, v = numN (l.getD 1 []) 1 := ⟨_, rfl⟩
  have vl0 : v0 < 4294967296 := by rw [hv0]; exact numN_lt (by omega)
  have vl1 : v1 < 256 := by rw [hv1]; exact numN1_lt _
  obtain ⟨l4v, hl4⟩ : ∃ x, x = l.getD 4 [] := ⟨_, rfl⟩
  obtain ⟨op, hop⟩ : ∃ x, x = l.getD 3 [] := ⟨_, rfl⟩
  have lop : op.length = 32 := by rw [hop]; exact l3
  have OH : Hid (∀ W, Ext w1 W → Calls Tryd.prog 61 #[.slice A0 4 c0] W fun e w' => e = .returned (.int .u64 (v0 : Int)) ∧ Ext W w') := fun W x => by
    rw [hv0]
    exact (refOfHigh_calls (b0.1.ext x) (by omega) (by omega) (.inl rfl)).mono fun e w' q => ⟨q.1, by rw [q.2]; exact Ext.refl _⟩
  have SR : Hid (∀ W, Ext w1 W → Calls Tryd.prog 60 #[.slice A4 n4 c4] W fun e w' => e = .returned (.tuple #[.agg (readS16 l4v).C.toArray, .int .i64 (readE16 l4v)]) ∧ Ext W w') := fun W x => by rw [hl4]; exact rread16_calls (b4.1.ext x) n4l
  have C1 : Hid (∀ W, Ext w1 W → W.cell? ⟨g, 0, none⟩ = some (.slice A0 4 c0) ∧ W.cell? ⟨g, 1, none⟩ = some (.slice (some ⟨B1, o1, none⟩) 1 c1') ∧ W.cell? ⟨g, 2, none⟩ = some (.slice A2 n2 c2) ∧ W.cell? ⟨B1, o1, none⟩ = some (.int .u8 (v1 : Int))) := fun W x => ⟨(x.cell hgl).trans q0, (x.cell hgl).trans q1, (x.cell hgl).trans q2, by
    rw [hv1, numN_bt (by omega)]
    exact (x.cell hB1).trans (hc1 0 (by omega))⟩
  have C3 : Hid (∀ W k, Ext w1 W → k < 32 → W.cell? ⟨g, 3, none⟩ = some (.slice (some ⟨B3, o3, none⟩) 32 c3) ∧ W.cell? ⟨B3, o3 + k, none⟩ = some (.int .u8 (bt op k : Int))) := fun W k x hk => ⟨(x.cell hgl).trans q3, by rw [hop]; exact (x.cell hB3).trans (hc3 k (by omega))⟩
  have RD : Hid (∀ s, s = readS16 l4v → rdR l = ⟨(v0 : Int), (v1 : Int), l.getD 2 [], op, s⟩) := Lib.hid (fun s hs => by rw [hs, hop, hl4, hv0, hv1]; rfl)
  have okx := readS_ok l4v
  have L_x := Sm.C_len okx
  have FB : Hid (readE16 l4v = 0 → formR l = (besideB (v0 : Int) (v1 : Int) n2)) := Lib.hid fun h4 => by
    have e1 : besideB (rdR l).id (rdR l).whose (rdR l).txt.length = besideB (v0 : Int) (v1 : Int) n2 := by rw [RD.out _ rfl]; dsimp only; rw [l2]
    rw [← e1]
    refine Bool.eq_iff_iff.2 ⟨fun q => (FI.out.1 q).2.2.2.2.2, fun q => FI.out.2 ⟨hln, l0, l1, l3, by rw [← hl4, h4], q⟩⟩
  have BX : Hid (readE16 l4v = 0 → (readS16 l4v).valid = true) := Lib.hid fun h4 => (bytes_read h4).2.2
  have B4X : Hid (readE16 l4v ≠ 0 → formR l = false) := Lib.hid fun h4 => Bool.eq_false_iff.mpr fun q => h4 (by rw [hl4]; exact (FI.out.1 q).2.2.2.2.1)
  have RI : Hid (∀ (W : World), Calls Tryd.prog 48 #[.agg (rpC (v0 : Int) (v1 : Int) A2 n2 c2 op (readS16 l4v).C).toArray] W fun e w' => e = .returned (.bool (besideB (v0 : Int) (v1 : Int) n2 && (readS16 l4v).valid)) ∧ Ext W w') := fun W => right17_calls lop okx
  have OB : Hid (∀ k, k ≤ 32 → (rpC (v0 : Int) (v1 : Int) A2 n2 c2 (partK op k) (readS16 l4v).C).length = 103) := fun k hk => rpC_len (partK_len (by omega) hk) L_x _ _ _ _ _
  have OO : Hid (∀ k, (rpC (v0 : Int) (v1 : Int) A2 n2 c2 (partK op k) (readS16 l4v).C).toArray.all (·.oneCell') = true) := fun k => one_cells one_rp
  have B4 := Lib.hid (report_built4 (id := (v0 : Int)) (whose := (v1 : Int)) (A := A2) (n := n2) (c := c2) L_x)
  have PS : Hid (∀ k, k < 32 → (rpC (v0 : Int) (v1 : Int) A2 n2 c2 (partK op k) (readS16 l4v).C).set (3 + k) (.int .u8 (bt op k : Int)) = rpC (v0 : Int) (v1 : Int) A2 n2 c2 (partK op (k + 1)) (readS16 l4v).C) := fun k hk => rp_set_op (partK_len (by omega) (by omega)) hk (partK_step (by omega) hk)
  have PG : Hid (∀ k, k < 32 → ∃ v, (rpC (v0 : Int) (v1 : Int) A2 n2 c2 (partK op k) (readS16 l4v).C)[3 + k]? = some v) := fun k hk => ⟨_, rp_get_op (partK_len (by omega) (by omega)) hk⟩
  have P0 : Hid (partK op 0 = List.replicate 32 0) := partK_zero op
  have P32 : Hid (partK op 32 = op) := by unfold Hid; rw [partK_full, List.take_of_length_le (by omega)]
  have O_x : (readS16 l4v).C.toArray.all (·.oneCell') = true := one_cells (readS16 l4v).one
  have FN : Hid (∀ (W : World) , Ext w W → Bs W A2 n2 c2 (l.getD 2 []) → formR l = true → RetRp RM RE w (.returned (.tuple #[.agg (rpC (v0 : Int) (v1 : Int) A2 n2 c2 op (readS16 l4v).C).toArray, .int .i64 0])) W) := fun W x hB hf => by
    obtain ⟨f1, f2⟩ := N0.out hf
    rw [f1, f2, RD.out _ rfl]
    exact ⟨A2, n2, c2, rfl, hB, x⟩
  obtain ⟨SX, hSX⟩ : ∃ x, x = (readS16 l4v).C := ⟨_, rfl⟩
  rw [← hSX] at SR L_x RI OB OO B4 PS PG O_x FN
  have S_x : SX.toArray.size = 68 := by rw [List.size_toArray, L_x]
  obtain ⟨EX, hEX⟩ : ∃ x, x = readE16 l4v := ⟨_, rfl⟩
  rw [← hEX] at SR FB BX B4X
  have T2 := Lib.hid b2
  have P1 : Hid (∀ u, Ext w1 u → Cb u p 28 ZC ∧ Ext w u) := fun u x => ⟨k0.out.ext x, X1.out.trans x⟩
  have w1g : w1.heap.size ≥ p + 1 := k0.out.lt
  have c1u : IntKind.i64.wrap (v0 : Int) = (v0 : Int) := IntWalk.i64_in _ (by omega)
  have c2u : IntKind.i64.wrap (v1 : Int) = (v1 : Int) := IntWalk.i64_in _ (by omega)
  have cell4 := q4
  clear q2 q4 b0 b1 b2 b3 b4 hc1 hc3 hB1 hB3 k0 X1 FI N0 RD hSX hEX hl4 hop hv0 hv1 okx l0 l1 l2 l3 l4
  obtain ⟨fC, hfC⟩ : ∃ f : Nat → List Value, f = fun k => rpC (v0 : Int) (v1 : Int) A2 n2 c2 (partK op k) SX := ⟨_, rfl⟩
  have e0 : ∀ k, rpC (v0 : Int) (v1 : Int) A2 n2 c2 (partK op k) SX = fC k := fun k => by rw [hfC]
  have F0 : Hid (rpC (v0 : Int) (v1 : Int) A2 n2 c2 (List.replicate 32 0) SX = fC 0) := by rw [← P0.out]; exact Lib.hid (e0 0)
  have F32 : Hid (rpC (v0 : Int) (v1 : Int) A2 n2 c2 op SX = fC 32) := Lib.hid ((congrArg (fun z => rpC (v0 : Int) (v1 : Int) A2 n2 c2 z SX) P32.out.symm).trans (e0 32))
  rw [F0.out] at B4
  rw [F32.out] at RI FN
  simp only [e0] at OB OO PS PG
  clear hfC e0 F0 F32 P0 P32
  have SR1 := Lib.hid (SR.out w1 (Ext.refl _))
  clear SR
  go_upto_region 6 with fail
  clear q0 q1 q3
  go_wp2_with fail
  refine SR1.out.mono ?_
  rintro e w2 ⟨rfl, x2⟩
  have B6 : Hid (Cb ((w2.alloc (.cells ZS.toArray 26)).setRow w2.heap.size SX.toArray) w2.heap.size 26 SX ∧ Ext w2 ((w2.alloc (.cells ZS.toArray 26)).setRow w2.heap.size SX.toArray)) := ⟨Cb.set (Cb.new _ _ _), Ext.newRow _ _ _⟩
  replace x2 := Lib.hid x2
  clear SR1 cell4
  go_upto_region 7 with (refine wpList_store_row rfl 26 _ _ rfl w2.heap.size SX.toArray rfl rfl 26 ZS.toArray (heap_alloc_new _ _) (by rw [S_x]; rfl) (by rw [S_x, S_Z]) O_x ?_; simp only [Act.put])
  refine wp_gen (fun W => Cb W w2.heap.size 26 SX ∧ Ext w2 W) B6.out ?_
  have w2g : p + 1 ≤ w2.heap.size := Nat.le_trans w1g x2.out.size
  generalize w2.heap.size = g6 at *
  clear B6 hst
  rintro w3 ⟨k6, x3⟩
  replace x3 := Lib.hid (x2.out.trans x3)
  replace k6 := Lib.hid k6
  clear x2
  by_cases hE : ¬ (EX = 0)
  · have u1 : (EX == 0) = false := by simpa using hE
    have ZF := Lib.hid (N2.out (B4X.out hE))
    have k1 := (P1.out w3 x3.out).1
    have F : Hid (Ext w (w3.setRow p ZC.toArray)) := below_setRow (P1.out w3 x3.out).2 wp_ _
    clear N2 B4X FN P1 OH C1 C3 FB BX RI OB OO B4 PS PG T2 x3 k6
    go_wp2_with (first
      | (refine wpList_build_as rfl _ _ rfl ZC.toArray (by simp only [List.map_toArray, List.map_nil]; exact BZ.out) ?_; go_frame)
      | (refine wpList_store_row rfl 28 _ _ rfl p ZC.toArray rfl rfl 28 ZC.toArray k1 (by rw [S_z]; rfl) rfl O_z ?_; simp only [Act.put]))
    (try simp only [Exit.inBlock, Exit.then])
    refine bodyPost_ret (results_row_tmp rfl _ _ p 28 ZC.toArray (0, 0) _ _ rfl rfl (setRow_heap _ _ _ _ _ _ k1) rfl rfl (by rw [S_z]; rfl)) rfl ?_
    exact RZ.out _ _ _ _ _ ZF.out.1 ZF.out.2 F.out
  obtain rfl : EX = 0 := Classical.not_not.1 hE
  have hv := BX.out rfl
  replace FB := Lib.hid (FB.out rfl)
  rw [hv, Bool.and_true] at RI
  clear hE hv BX B4X
  have P3 : Hid (∀ u, Ext w3 u → Ext w1 u ∧ u.heap[g6]? = some (.cells SX.toArray 26 (0, 0))) := fun u x => ⟨x3.out.trans x, k6.out.ext x⟩
  have w3g : g6 < w3.heap.size := k6.out.lt
  clear k6 x3
  go_upto_region 9 with fail
  refine qgF (R := Ext) Ext.refl (fun _ _ _ => Ext.trans) [0, 1, 2, 3, 4, 5, 6, 7, 8, 9, 10, 11, 12, 13, 14, 15, 16] [17] [0, 1, 3, 7, 15, 0, 32, 96, 224, 480, 992, 0, 2048, 6144, 0, 32767, 0, 131071] [true, true, true, true, true, true, true, true, true, true, true, true, true, true, true, true, true, false] ?_
  refine free_det (fun _ => Ext.refl _) _ rfl (v := ?_) (d := 54) rfl rfl ?_ ?_
  rotate_left
  · intro a_ w_ hev hR hk
    have e4 : a_.eval (.tmp 4) = _ := hk 4 rfl
    clear hk
    generalize a_.eval = ev at *
    obtain ⟨hev1, hev2, hev3⟩ := hev
    go_simp
    (try with_reducible rfl)
  refine free_det (fun _ => Ext.refl _) _ rfl (v := ?_) (d := 55) rfl rfl ?_ ?_
  rotate_left
  · intro a_ w_ hev hR hk
    have e53 : a_.eval (.tmp 53) = _ := hk 53 rfl
    clear hk
    generalize a_.eval = ev at *
    obtain ⟨hev1, hev2, hev3⟩ := hev
    go_simp
    (try with_reducible rfl)
  refine free_det (fun _ => Ext.refl _) _ rfl (v := ?_) (d := 56) rfl rfl ?_ ?_
  rotate_left
  · intro a_ w_ hev hR hk
    have e54 : a_.eval (.tmp 54) = _ := hk 54 rfl
    clear hk
    have hF := ((C1.out w_ (P3.out w_ ((Ext.refl _).drew.trans hR)).1).1)
    generalize a_.eval = ev at *
    obtain ⟨hev1, hev2, hev3⟩ := hev
    go_simp
    (try with_reducible rfl)
  refine free_step _ rfl (fun u _ => u = .int .u64 (v0 : Int)) (d := 57) rfl (fun _ _ _ h _ => h) rfl ?_ ?_
  · intro a_ w_ hev hR hk K1 hK1
    have e55 : a_.eval (.tmp 55) = _ := hk 55 rfl
    clear hk
    have f55 := ev_get.trans e55
    go_simp
    refine (OH.out _ (P3.out w_ ((Ext.refl _).drew.trans hR)).1).mono ?_
    rintro e_ w2_ ⟨rfl, x_⟩
    exact hK1.out _ _ x_ rfl
  refine free_det (fun _ => Ext.refl _) _ rfl (v := ?_) (d := 58) rfl rfl ?_ ?_
  rotate_left
  · intro a_ w_ hev hR hk
    have e56 : a_.eval (.tmp 56) = _ := hk 56 rfl
    clear hk
    generalize a_.eval = ev at *
    obtain ⟨hev1, hev2, hev3⟩ := hev
    go_simp
    (try with_reducible rfl)
  refine free_det (fun _ => Ext.refl _) _ rfl (v := ?_) (d := 59) rfl rfl ?_ ?_
  rotate_left
  · intro a_ w_ hev hR hk
    have e4 : a_.eval (.tmp 4) = _ := hk 4 rfl
    clear hk
    generalize a_.eval = ev at *
    obtain ⟨hev1, hev2, hev3⟩ := hev
    go_simp
    (try with_reducible rfl)
  refine free_det (fun _ => Ext.refl _) _ rfl (v := ?_) (d := 60) rfl rfl ?_ ?_
  rotate_left
  · intro a_ w_ hev hR hk
    have e58 : a_.eval (.tmp 58) = _ := hk 58 rfl
    clear hk
    generalize a_.eval = ev at *
    obtain ⟨hev1, hev2, hev3⟩ := hev
    go_simp
    (try with_reducible rfl)
  refine free_det (fun _ => Ext.refl _) _ rfl (v := ?_) (d := 61) rfl rfl ?_ ?_
  rotate_left
  · intro a_ w_ hev hR hk
    have e59 : a_.eval (.tmp 59) = _ := hk 59 rfl
    clear hk
    have hF := ((C1.out w_ (P3.out w_ ((Ext.refl _).drew.trans hR)).1).2.1)
    generalize a_.eval = ev at *
    obtain ⟨hev1, hev2, hev3⟩ := hev
    go_simp
    (try with_reducible rfl)
  refine free_det (fun _ => Ext.refl _) _ rfl (v := ?_) (d := 62) rfl rfl ?_ ?_
  rotate_left
  · intro a_ w_ hev hR hk
    have e60 : a_.eval (.tmp 60) = _ := hk 60 rfl
    clear hk
    generalize a_.eval = ev at *
    obtain ⟨hev1, hev2, hev3⟩ := hev
    go_simp
    (try with_reducible rfl)
  refine free_det (fun _ => Ext.refl _) _ rfl (v := ?_) (d := 63) rfl rfl ?_ ?_
  rotate_left
  · intro a_ w_ hev hR hk
    have e61 : a_.eval (.tmp 61) = _ := hk 61 rfl
    clear hk
    have hF := ((C1.out w_ (P3.out w_ ((Ext.refl _).drew.trans hR)).1).2.2.2)
    generalize a_.eval = ev at *
    obtain ⟨hev1, hev2, hev3⟩ := hev
    go_simp
    (try with_reducible rfl)
  refine free_det (fun _ => Ext.refl _) _ rfl (v := ?_) (d := 64) rfl rfl ?_ ?_
  rotate_left
  · intro a_ w_ hev hR hk
    have e62 : a_.eval (.tmp 62) = _ := hk 62 rfl
    clear hk
    generalize a_.eval = ev at *
    obtain ⟨hev1, hev2, hev3⟩ := hev
    go_simp
    (try with_reducible rfl)
  refine free_det (fun _ => Ext.refl _) _ rfl (v := ?_) (d := 65) rfl rfl ?_ ?_
  rotate_left
  · intro a_ w_ hev hR hk
    have e4 : a_.eval (.tmp 4) = _ := hk 4 rfl
    clear hk
    generalize a_.eval = ev at *
    obtain ⟨hev1, hev2, hev3⟩ := hev
    go_simp
    (try with_reducible rfl)
  refine free_det (fun _ => Ext.refl _) _ rfl (v := ?_) (d := 66) rfl rfl ?_ ?_
  rotate_left
  · intro a_ w_ hev hR hk
    have e64 : a_.eval (.tmp 64) = _ := hk 64 rfl
    clear hk
    generalize a_.eval = ev at *
    obtain ⟨hev1, hev2, hev3⟩ := hev
    go_simp
    (try with_reducible rfl)
  refine free_det (fun _ => Ext.refl _) _ rfl (v := ?_) (d := 67) rfl rfl ?_ ?_
  rotate_left
  · intro a_ w_ hev hR hk
    have e65 : a_.eval (.tmp 65) = _ := hk 65 rfl
    clear hk
    have hF := ((C1.out w_ (P3.out w_ ((Ext.refl _).drew.trans hR)).1).2.2.1)
    generalize a_.eval = ev at *
    obtain ⟨hev1, hev2, hev3⟩ := hev
    go_simp
    (try with_reducible rfl)
  refine free_det (fun _ => Ext.refl _) _ rfl (v := .agg SX.toArray) (d := 68) rfl rfl ?_ ?_
  · intro a_ w_ hev hR hk
    have e6 : a_.eval (.tmp 6) = _ := hk 6 rfl
    exact exec_load_row rfl e6 (P3.out w_ ((Ext.refl _).drew.trans hR)).2 rfl rfl (by rw [S_x]; rfl)
  refine free_det (fun _ => Ext.refl _) _ rfl (v := .agg (fC 0).toArray) (d := 69) rfl rfl ?_ ?_
  · intro a_ w_ hev hR hk
    have e57 : a_.eval (.tmp 57) = _ := hk 57 rfl
    have e63 : a_.eval (.tmp 63) = _ := hk 63 rfl
    have e66 : a_.eval (.tmp 66) = _ := hk 66 rfl
    have e67 : a_.eval (.tmp 67) = _ := hk 67 rfl
    exact (exec_build_as rfl (by simp only [List.map_toArray, List.map_cons, List.map_nil, e57, e63, e66, e67]; exact B4.out))
  refine free_new _ rfl (fun u w_ => ∃ g, u = .pointer (some ⟨g, 0, none⟩) ∧ w3.drew.heap.size ≤ g ∧ w_.heap[g]? = some (.cells ZC.toArray 28 (0, 0))) (d := 8) rfl (fun _ _ _ h e => by obtain ⟨g, h1, h2, h3⟩ := h; exact ⟨g, h1, h2, (e.block g (heap_lt h3)).trans h3⟩) rfl (by decide) (fun _ _ h => by obtain ⟨g, h1, h2, h3⟩ := h; subst h1; exact ⟨g, rfl, heap_lt h3⟩) ?_ ?_
  · intro a_ w_ hev hR hk K1 hK1
    go_simp
    exact hK1.out _ _ ((Ext.refl _).alloc _) ⟨_, rfl, hR.size, heap_alloc_new _ _⟩ (fun _ q => by cases q; exact Nat.le_refl _)
  intro v_ w4 hR hV_ hN_
  obtain ⟨hv16, hv15, hv14, hv13, hv12, hv11, hv10, hv9, hv8, hv7, hv6, hv5, hv4, hv3, hv2, hv1, hv0, _⟩ := hV_
  replace hv0 : v_ 0 = _ := hv0
  replace hv1 : v_ 1 = _ := hv1
  replace hv2 : v_ 2 = _ := hv2
  replace hv3 : v_ 3 = _ := hv3
  replace hv4 : v_ 4 = _ := hv4
  replace hv5 : v_ 5 = _ := hv5
  replace hv6 : v_ 6 = _ := hv6
  replace hv7 : v_ 7 = _ := hv7
  replace hv8 : v_ 8 = _ := hv8
  replace hv9 : v_ 9 = _ := hv9
  replace hv10 : v_ 10 = _ := hv10
  replace hv11 : v_ 11 = _ := hv11
  replace hv12 : v_ 12 = _ := hv12
  replace hv13 : v_ 13 = _ := hv13
  replace hv14 : v_ 14 = _ := hv14
  replace hv15 : v_ 15 = _ := hv15
  skip
  dsimp only [putE, dOpt]
  obtain ⟨g_16, hv16, gb_16, gc_16⟩ := hv16
  clear hN_
  rw [hv0, hv1, hv2, hv3, hv4, hv5, hv6, hv7, hv8, hv9, hv10, hv11, hv12, hv13, hv14, hv15, hv16]
  go_frame
  clear hv0 hv1 hv2 hv3 hv4 hv5 hv6 hv7 hv8 hv9 hv10 hv11 hv12 hv13 hv14 hv15 hv16
  refine any_more (z := 17) _ rfl rfl (by kernel_rfl) ?_
  intro K1 hK1
  refine wp_store_row _ _ _ rfl g_16 (fC 0).toArray rfl rfl 28 ZC.toArray gc_16 (by rw [List.size_toArray, OB.out 0 (by omega)]; rfl) (by rw [S_z, List.size_toArray, OB.out 0 (by omega)]) (OO.out 0) ?_
  refine hK1.out _ _ ?_
  clear hK1 K1
  refine any_nil (by kernel_rfl) ?_
  have gb : w3.heap.size ≤ g_16 := gb_16
  have gx := (P3.out w4 ((Ext.refl _).drew.trans hR)).1
  refine gen_q (fun W => Cb W g_16 28 (fC 0) ∧ Ext w1 W) ⟨setRow_heap _ _ _ _ _ _ gc_16, below_setRow gx (by have := (P3.out w3 (Ext.refl _)).1.size; omega) _⟩ ?_
  have gp1 : w1.heap.size ≤ g_16 := by have := (P3.out w3 (Ext.refl _)).1.size; omega
  clear hR gc_16 gb_16 gx gb
  generalize g_16 = g7 at *
  rintro w5 ⟨k7, x5⟩
  replace k7 := Lib.hid k7
  replace x5 := Lib.hid x5
  clear OH C1 P3 B4
  go_wp2_with fail
  go_loopw [8] (fun iv W => ∃ k : Nat, k ≤ 32 ∧ iv = .int .i64 (k : Int) ∧ Cb W g7 28 (fC k) ∧ Ext w1 W) (fun iv _ => 32 - (intOf iv).toNat)
  case atStart => exact ⟨0, Nat.zero_le _, rfl, k7.out, x5.out⟩
  case round =>
    clear k7 x5
    obtain ⟨k, hk, rfl, k7, x0⟩ := hrel
    by_cases hlt : k < 32
    · obtain ⟨ov, hov⟩ := PG.out k hlt
      obtain ⟨g1, g2⟩ := C3.out wr k x0 hlt
      have d1 : decide ((k : Int) < 32) = true := decide_eq_true (by omega)
      have z1 := k7.frozen (3 + k)
      have cc := k7.cell hov
      have t1 : (k : Int) < 32 := by omega
      have F : Hid (Cb (wr.setCell ⟨g7, 3 + k, none⟩ (.int .u8 (bt op k : Int))) g7 28 (fC (k + 1)) ∧ Ext w1 (wr.setCell ⟨g7, 3 + k, none⟩ (.int .u8 (bt op k : Int)))) := ⟨by have := k7.setCell (o := 3 + k) (v := .int .u8 (bt op k : Int)); rwa [PS.out k hlt] at this, x0.setCell (by simp; omega) _⟩
      clear k7 x0 hov
      go_wp2_with fail
      go_roundw
      case rel => exact ⟨k + 1, by omega, by go_num, F.out⟩
      case measure => simp [intOf]; omega
    · obtain rfl : k = 32 := by omega
      have L_C := OB.out 32 (by omega)
      have O_C := Lib.hid (OO.out 32)
      obtain ⟨CC, hCC⟩ : ∃ CC, CC = fC 32 := ⟨_, rfl⟩
      rw [← hCC] at k7 L_C O_C RI FN
      replace hCC := Lib.hid hCC
      have S_C : CC.toArray.size = 103 := by rw [List.size_toArray, L_C]
      replace k7 := Lib.hid k7
      replace x0 := Lib.hid x0
      clear OB OO PS PG C3
      go_wp2_with (first | ((with_reducible refine wpList_load_rowW (o := ⟨some 82, _, _, _, _, _⟩) ?_ 28 _ rfl g7 ?_ 28 CC.toArray (0, 0) _ ?_ Tryd.underlying28 ?_ ?_ ?_); (· rfl); (· rfl); (· exact k7.out); (· rfl); (· rw [S_C]; rfl); go_frame))
      refine (RI.out _).mono ?_
      rintro e w6 ⟨rfl, x6⟩
      have k8 := Lib.hid (k7.out.ext x6)
      have x8 := Lib.hid (x0.out.trans x6)
      have k1 := (P1.out w6 x8.out).1
      have y8 := Lib.hid (P1.out w6 x8.out).2
      clear RI k7 x0 x6 P1
      rcases hbe : besideB (v0 : Int) (v1 : Int) n2 with _ | _
      · have ZF := Lib.hid (N2.out (by rw [FB.out, hbe]))
        have F : Hid (Ext w (w6.setRow p ZC.toArray)) := below_setRow y8.out wp_ _
        clear N2 FN FB hbe T2 k8 x8
        go_wp2_with (first
          | (refine wpList_build_as rfl _ _ rfl ZC.toArray (by simp only [List.map_toArray, List.map_nil]; exact BZ.out) ?_; go_frame)
          | (refine wpList_store_row rfl 28 _ _ rfl p ZC.toArray rfl rfl 28 ZC.toArray k1 (by rw [S_z]; rfl) rfl O_z ?_; simp only [Act.put]))
        (try simp only [Exit.inBlock, Exit.then])
        refine bodyPost_ret (results_row_tmp rfl _ _ p 28 ZC.toArray (0, 0) _ _ rfl rfl (setRow_heap _ _ _ _ _ _ k1) rfl rfl (by rw [S_z]; rfl)) rfl ?_
        exact RZ.out _ _ _ _ _ ZF.out.1 ZF.out.2 F.out
      have hf := Lib.hid (FB.out.trans hbe)
      have F : Hid (Ext w (w6.setRow p CC.toArray)) := below_setRow y8.out wp_ _
      have TB : Hid (Bs (w6.setRow p CC.toArray) A2 n2 c2 (l.getD 2 [])) := by
        refine (BsG.stay T2.out (Nat.le_trans x8.out.size (by simp)) fun i hi hl => ?_).1
        rw [setRow_other _ _ _ _ (by omega)]
        exact x8.out.block i hl
      clear N2 FB hbe T2 x8 y8
      go_wp2_with (first
        | ((with_reducible refine wpList_load_rowW (o := ⟨some 86, _, _, _, _, _⟩) ?_ 28 _ rfl g7 ?_ 28 CC.toArray (0, 0) _ ?_ Tryd.underlying28 ?_ ?_ ?_); (· rfl); (· rfl); (· exact k8.out); (· rfl); (· rw [S_C]; rfl); go_frame)
        | (refine wpList_store_row rfl 28 _ _ rfl p CC.toArray rfl rfl 28 ZC.toArray k1 (by rw [S_C]; rfl) (by rw [S_C, S_z]) O_C.out ?_; simp only [Act.put]))
      (try simp only [Exit.inBlock, Exit.then])
      refine bodyPost_ret (results_row_tmp rfl _ _ p 28 CC.toArray (0, 0) _ _ rfl rfl (setRow_heap _ _ _ _ _ _ k1) rfl rfl (by rw [S_C]; rfl)) rfl ?_
      exact FN.out _ F.out TB.out hf.out
end Go.Proofs.YtmnohmhhmaeljaaDoor
