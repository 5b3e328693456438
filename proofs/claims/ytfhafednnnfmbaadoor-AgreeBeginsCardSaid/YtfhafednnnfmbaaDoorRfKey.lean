import Derived.Test.YtfhafednnnfmbaaDoorPkF
import Derived.Test.YtfhafednnnfmbaaDoorPkQ
/-
  palfreyref06.Key.
-/
namespace Go.Proofs.YtfhafednnnfmbaaDoor
open Go.ChangeShapes Go.WideShapes Go.ChangeAt Go.RowKit Go.Deep
set_option maxRecDepth 100000

set_option maxHeartbeats 8000000 in
theorem rfkey_calls {x : Nat} {w : World} (hx : x < B16) :
    Calls Tryd.prog 38 #[.agg (ucells (dgs 16 x)).toArray] w fun e w' => e = .returned (.agg (cellsOf (kL (x % P25))).toArray) ∧ Ext w w' := by
  have CA : Hid (∀ W, Calls Tryd.prog 56 #[.agg (ucells (dgs 16 x)).toArray] W fun e w' => e = .returned (.agg (ucells (dgs 16 x)).toArray) ∧ Ext W w') := fun W => by
    have := carried_calls (w := W) (dgs_dig x)
    rw [cN_dgs hx] at this
    exact this
  have LE : Hid (∀ (W : World) (v : Nat), v < B16 → Calls Tryd.prog 57 #[.agg (ucells (dgs 16 v)).toArray] W fun e w' => e = .returned (.bool (decide (P25 ≤ v))) ∧ Ext W w') := fun W v h => least_calls h
  have PR : Hid (∀ (W : World) (i : Nat), Calls Tryd.prog 58 #[.int .i64 (i : Int)] W fun e w' => e = .returned (.int .u64 (pd i : Int)) ∧ Ext W w') := fun W i => prime_calls
  have RL := kL_len (x % P25)
  have RB : Hid (∀ i, i < 16 → bt (kL (x % P25)) (2 * i) = dg (x % P25) i % 256 ∧ bt (kL (x % P25)) (2 * i + 1) = dg (x % P25) i / 256) := fun i hi => ⟨key_low hi, key_high hi⟩
  generalize kL (x % P25) = rr at *
  have hal := key_alloc
  have hz := zeros32_cells
  have zl : (List.replicate 32 (0 : UInt8)).length = 32 := rfl
  rw [← hz] at hal
  clear hz
  generalize List.replicate 32 (0 : UInt8) = zs at *
  have ZS : (cellsOf zs).toArray.size = 32 := by simp [cellsOf_len, zl]
  have XL := dgs_len 16 x
  have XS := ucells_size XL
  have X1 := ucells_one (dgs 16 x)
  have B0 : Hid (Ur ((w.alloc (Obj.cells (ucells (dgs 16 x)).toArray 68)).alloc (Obj.cells (cellsOf zs).toArray 23)) w.heap.size 68 (dgs 16 x) ∧ Ky ((w.alloc (Obj.cells (ucells (dgs 16 x)).toArray 68)).alloc (Obj.cells (cellsOf zs).toArray 23)) (w.heap.size + 1) zs ∧ Ext w ((w.alloc (Obj.cells (ucells (dgs 16 x)).toArray 68)).alloc (Obj.cells (cellsOf zs).toArray 23))) := ⟨heap_alloc1 _ _ _, ⟨heap_alloc2 _ _ _, zl⟩, ((Ext.refl w).alloc _).alloc _⟩
  obtain ⟨xs, hxs⟩ : ∃ xs, xs = dgs 16 x := ⟨_, rfl⟩
  rw [← hxs] at CA XL XS X1 B0 ⊢
  replace hxs := Lib.hid (fun _ : Unit => hxs)
  go_enter Tryd.func38, Tryd.ntmps38
  go_upto_region 1 with fail
  refine wp_gen (fun W => Ur W w.heap.size 68 xs ∧ Ky W (w.heap.size + 1) zs ∧ Ext w W) B0.out ?_
  clear B0
  rintro W0 ⟨k0, k1, e0⟩
  replace k0 := Lib.hid k0
  replace k1 := Lib.hid k1
  replace e0 := Lib.hid e0
  go_wp2_with (refine wpList_load_row rfl 68 _ rfl w.heap.size rfl 68 (ucells xs).toArray (0, 0) _ k0.out rfl rfl (by rw [XS]; rfl) ?_; simp only [Act.put, List.setIfInBounds_toArray, List.set_cons_zero, List.set_cons_succ])
  refine (CA.out _).mono ?_
  rintro e W1 ⟨rfl, e1⟩
  have m0 := Lib.hid (k0.out.kept e1 k0.out.lt)
  have m1 := Lib.hid (k1.out.ext e1)
  have m2 := Lib.hid (e0.out.trans e1)
  clear k0 k1 e0 e1 CA
  go_upto_region 2 with (refine wpList_store_row rfl 68 _ _ rfl w.heap.size (ucells xs).toArray rfl rfl 68 _ m0.out (by rw [XS]; rfl) (by rw [XS]) X1 ?_; simp only [Act.put, List.setIfInBounds_toArray, List.set_cons_zero, List.set_cons_succ])
  refine wp_gen (fun W => Ur W w.heap.size 68 xs ∧ Ky W (w.heap.size + 1) zs ∧ Ext w W) ⟨setRow_heap _ _ _ _ _ _ m0.out, ⟨(setRow_other _ _ _ _ (by omega)).trans m1.out.1, zl⟩, below_setRow m2.out (Nat.le_refl _) _⟩ ?_
  clear m0 m1 m2
  rintro W2 ⟨k0, k1, e0⟩
  replace k0 := Lib.hid k0
  replace k1 := Lib.hid k1
  replace e0 := Lib.hid e0
  have gne : Hid (¬ w.heap.size + 1 = w.heap.size) := by unfold Hid; omega
  go_loopw [3] (fun _ wr => ∃ v : Nat, v < B16 ∧ v % P25 = x % P25 ∧ Ur wr w.heap.size 68 (dgs 16 v) ∧ Ky wr (w.heap.size + 1) zs ∧ Ext w wr) (fun _ wr => mW wr w.heap.size)
  case atStart => exact ⟨x, hx, rfl, by rw [← hxs.out ()]; exact k0.out, k1.out, e0.out⟩
  case round =>
    clear k0 k1 e0 hxs
    obtain ⟨v, hv, hm, k0, k1, e0⟩ := hrel
    have LEv := Lib.hid (fun W => LE.out W v hv)
    have hmw := Lib.hid (mW_dgs k0 hv)
    have VL := dgs_len 16 v
    have VS := ucells_size VL
    by_cases hge : P25 ≤ v
    · rw [decide_eq_true hge] at LEv
      have hv2 : v - P25 < B16 := by omega
      have hm2 := mod_once hge hm
      have hlt3 : v - P25 < v := by
        have : 0 < P25 := by decide +kernel
        omega
      have DG : Hid (∀ i, i < 16 → dg (v - P25) i = (dg v i + 65536 - pd i - bK v i) % 65536) := fun i hi => by rw [pd_dg i hi]; exact key_dg hge i
      have BS : Hid (∀ i, i < 16 → bK v (i + 1) = 1 - (dg v i + 65536 - pd i - bK v i) / 65536) := fun i hi => by rw [pd_dg i hi]; rfl
      have WV : Hid (∀ j, j < 16 → wd (dgs 16 v) j = dg v j) := fun j hj => wd_dgs hj
      have b00 : Hid (bK v 0 = 0) := rfl
      have WE : Hid (∀ us : List Nat, us.length = 16 → (∀ j, j < 16 → wd us j = dg (v - P25) j) → us = dgs 16 (v - P25)) := fun us h1 h2 => words_dgs h1 h2
      have mwn : Hid (∀ (W : World), Ur W w.heap.size 68 (dgs 16 (v - P25)) → mW W w.heap.size < mW wr w.heap.size) := fun W h => by
        rw [mW_dgs h hv2, hmw.out]
        exact hlt3
      obtain ⟨y, hy⟩ : ∃ y, y = v - P25 := ⟨_, rfl⟩
      rw [← hy] at DG WE hv2 hm2 mwn
      clear hy hge hlt3 hmw hm
      generalize dgs 16 v = vs at *
      replace hv2 := Lib.hid hv2
      replace hm2 := Lib.hid hm2
      replace k0 := Lib.hid k0
      replace k1 := Lib.hid k1
      replace e0 := Lib.hid e0
      replace hv := Lib.hid hv
      go_wp2_with (refine wpList_load_row rfl 68 _ rfl w.heap.size rfl 68 (ucells vs).toArray (0, 0) _ k0.out rfl rfl (by rw [VS]; rfl) ?_; simp only [Act.put, List.setIfInBounds_toArray, List.set_cons_zero, List.set_cons_succ])
      refine (LEv.out _).mono ?_
      rintro e W3 ⟨rfl, e1⟩
      have m0 := Lib.hid (k0.out.kept e1 k0.out.lt)
      have m1 := Lib.hid (k1.out.ext e1)
      have m2 := Lib.hid (e0.out.trans e1)
      clear k0 k1 e0 e1 LEv LE
      go_wp2_with fail
      go_loopw [3, 4] (fun ov jv wc => ∃ (i : Nat) (us : List Nat), i ≤ 16 ∧ jv = .int .i64 (i : Int) ∧ ov = .int .u64 (bK v i : Int) ∧ us.length = 16 ∧ (∀ j, j < i → wd us j = dg y j) ∧ (∀ j, i ≤ j → j < 16 → wd us j = dg v j) ∧ Ur wc w.heap.size 68 us ∧ Ky wc (w.heap.size + 1) zs ∧ Ext w wc) (fun _ jv _ => 16 - (intOf jv).toNat)
      case atStart => exact ⟨0, vs, Nat.zero_le _, rfl, by rw [b00.out]; rfl, VL, fun j hj => absurd hj (by omega), fun j _ hj => WV.out j hj, m0.out, m1.out, m2.out⟩
      case round =>
        clear m0 m1 m2 b00 WV
        obtain ⟨i, us, hi, rfl, rfl, ul, ud, ur, k0, k1, e0⟩ := hrel
        by_cases hlt2 : i < 16
        · have ii : (i : Int) < 16 := by omega
          have ii0 : (0 : Int) ≤ (i : Int) := by omega
          have PRi := Lib.hid (fun W => PR.out W i)
          have b1 := dg_lt v i
          have b2 := pd_lt i
          have b3 := bK_le v i
          have CC : Hid (∀ s, Ext wr s → s.cell? ⟨w.heap.size, i, none⟩ = some (.int .u64 (dg v i : Int))) := fun s e => by
            have := (k0.kept e k0.lt).cell (i := i) (by omega)
            rw [ur i (Nat.le_refl _) hlt2] at this
            exact this
          have hz := Lib.hid (DG.out i hlt2)
          have hc := Lib.hid (BS.out i hlt2)
          generalize bK v i = b at *
          generalize pd i = p at *
          generalize dg v i = a at *
          obtain ⟨s, hs⟩ : ∃ s, s = a + 65536 := ⟨_, rfl⟩
          obtain ⟨t, ht⟩ : ∃ t, t = s - p := ⟨_, rfl⟩
          obtain ⟨T, hT⟩ : ∃ T, T = t - b := ⟨_, rfl⟩
          obtain ⟨z, hzz⟩ : ∃ z, z = T % 65536 := ⟨_, rfl⟩
          obtain ⟨d, hd⟩ : ∃ d, d = T / 65536 := ⟨_, rfl⟩
          obtain ⟨o, ho⟩ : ∃ o, o = 1 - d := ⟨_, rfl⟩
          rw [← hs, ← ht, ← hT, ← hzz] at hz
          rw [← hs, ← ht, ← hT, ← hd, ← ho] at hc
          have f1 : (a : Int) + 65536 = (s : Int) := by omega
          have f1w : IntKind.u64.wrap (s : Int) = (s : Int) := by rw [IntKind.wrap_u64]; omega
          have f2 : (s : Int) - (p : Int) = (t : Int) := by omega
          have f2w : IntKind.u64.wrap (t : Int) = (t : Int) := by rw [IntKind.wrap_u64]; omega
          have f4 : (t : Int) - (b : Int) = (T : Int) := by omega
          have f4w : IntKind.u64.wrap (T : Int) = (T : Int) := by rw [IntKind.wrap_u64]; omega
          have f5 : (T : Int) % 65536 = (z : Int) := by omega
          have f5t : Int.tmod (T : Int) 65536 = (z : Int) := by rw [Int.tmod_eq_emod_of_nonneg (by omega)]; exact f5
          have f5w : IntKind.u64.wrap (z : Int) = (z : Int) := by rw [IntKind.wrap_u64]; omega
          have f6 : (T : Int) / 65536 = (d : Int) := by omega
          have f6t : Int.tdiv (T : Int) 65536 = (d : Int) := by rw [Int.tdiv_eq_ediv_of_nonneg (by omega)]; exact f6
          have f6w : IntKind.u64.wrap (d : Int) = (d : Int) := by rw [IntKind.wrap_u64]; omega
          have f7 : 1 - (d : Int) = (o : Int) := by omega
          have f7w : IntKind.u64.wrap (o : Int) = (o : Int) := by rw [IntKind.wrap_u64]; omega
          have il : Hid (i < us.length) := by unfold Hid; omega
          have KC : Hid (∀ s, Ext wr s → s.cell? ⟨w.heap.size, i, none⟩ = some (.int .u64 (a : Int)) ∧ Ur s w.heap.size 68 us ∧ Ky s (w.heap.size + 1) zs ∧ Ext w s) := fun s e => And.intro (CC.out s e) (And.intro (k0.kept e k0.lt) (And.intro (k1.ext e) (e0.trans e)))
          replace hs := Lib.hid hs
          replace ht := Lib.hid ht
          replace hT := Lib.hid hT
          replace hzz := Lib.hid hzz
          replace hd := Lib.hid hd
          replace ho := Lib.hid ho
          replace ud := Lib.hid ud
          replace ur := Lib.hid ur
          clear b1 b2 b3 DG BS WE PR CC k0 k1 e0
          go_upto_region 7 with fail
          refine wp_region_seq (R := Ext) Ext.refl (fun _ _ _ => Ext.trans) [0, 1, 2, 3, 4, 7, 5, 6, 8, 9] [5] [(0, 17, 32), (1, 18, 131076), (2, 19, 262144), (4, 20, 524288), (0, 21, 32), (16, 22, 2097152), (40, 23, 5242880), (0, 24, 16), (192, 25, 25165824), (511, 6, 33554432)] (by kernel_rfl) (by kernel_rfl) (by kernel_rfl) rfl (by kernel_rfl) (by kernel_rfl) (fun _ _ d _ _ h => by cases d <;> exact h) ?_
          repeat (first | (refine seq_read _ (fun w' e => (KC.out w' ((Ext.refl _).drew.trans e)).1) _ (v := ?_) rfl rfl (by rfl) ?_ ?_; rotate_left; (· intro w' hF; go_simp; (try with_reducible rfl)); simp only [Act.put, List.setIfInBounds_toArray, List.set_cons_zero, List.set_cons_succ]) | (refine seq_skip _ rfl rfl (by rfl) ?_; simp only [Act.put, List.setIfInBounds_toArray, List.set_cons_zero, List.set_cons_succ]))
          refine seq_do _ rfl rfl (by rfl) (fun K1 hK1 => ?_)
          go_simp
          refine (PRi.out _).mono ?_
          rintro e w2 ⟨rfl, e1⟩
          refine hK1.out _ _ e1 ?_
          clear hK1 K1
          try simp only [Act.put, List.setIfInBounds_toArray, List.set_cons_zero, List.set_cons_succ]
          repeat (first | (refine seq_read (fun _ => True) (fun _ _ => trivial) _ (v := ?_) rfl rfl (by rfl) ?_ ?_; rotate_left; (· intro w' hF; go_simp; (try with_reducible rfl)); simp only [Act.put, List.setIfInBounds_toArray, List.set_cons_zero, List.set_cons_succ]) | (refine seq_skip _ rfl rfl (by rfl) ?_; simp only [Act.put, List.setIfInBounds_toArray, List.set_cons_zero, List.set_cons_succ]))
          refine seq_done ?_
          have Q := KC.out w2 ((Ext.refl _).drew.trans e1)
          have m0 := Lib.hid Q.2.1
          have m1 := Lib.hid Q.2.2.1
          have m2 := Lib.hid Q.2.2.2
          have cv := m0.out.cell (i := i) il.out
          have fv := m0.out.frozen i
          clear Q KC e1 PRi
          generalize wd us i = old at *
          go_wp2_with fail
          refine ⟨⟨i + 1, us.set i z, by omega, by go_num, by rw [hc.out], by rw [List.length_set]; exact ul, fun j hj => ?_, fun j hj hj2 => ?_, m0.out.set, ⟨(Below.heap_setCell _ _ _ _ gne.out).trans m1.out.1, zl⟩, Ext.setCell m2.out (Nat.le_refl _) _⟩, by simp [intOf]; omega⟩
          · rw [wd_set il.out]
            by_cases e : j = i
            · rw [if_pos e, e]; exact hz.out.symm
            · rw [if_neg e]; exact ud.out j (by omega)
          · rw [wd_set il.out, if_neg (by omega)]; exact ur.out j (by omega) hj2
        · obtain rfl : i = 16 := by omega
          have hu := WE.out us ul ud
          subst hu
          have hmm := Lib.hid (mwn.out wr k0)
          replace k0 := Lib.hid k0
          replace k1 := Lib.hid k1
          replace e0 := Lib.hid e0
          clear ud ur DG BS WE PR mwn ul
          go_wp2_with fail
          exact ⟨⟨y, hv2.out, hm2.out, k0.out, k1.out, e0.out⟩, hmm.out⟩
    · rw [decide_eq_false hge] at LEv
      have hx3 : x % P25 = v := by rw [← hm]; exact Nat.mod_eq_of_lt (by omega)
      rw [hx3] at RB
      have WV : Hid (∀ j, j < 16 → wd (dgs 16 v) j = dg v j) := fun j hj => wd_dgs hj
      clear hx3 hm hge hmw PR hv LE
      generalize dgs 16 v = vs at *
      replace k0 := Lib.hid k0
      replace k1 := Lib.hid k1
      replace e0 := Lib.hid e0
      go_wp2_with (refine wpList_load_row rfl 68 _ rfl w.heap.size rfl 68 (ucells vs).toArray (0, 0) _ k0.out rfl rfl (by rw [VS]; rfl) ?_; simp only [Act.put, List.setIfInBounds_toArray, List.set_cons_zero, List.set_cons_succ])
      refine (LEv.out _).mono ?_
      rintro e W3 ⟨rfl, e1⟩
      have m0 := Lib.hid (k0.out.kept e1 k0.out.lt)
      have m1 := Lib.hid (k1.out.ext e1)
      have m2 := Lib.hid (e0.out.trans e1)
      clear k0 k1 e0 e1 LEv
      have a1 := Lib.hid (Ky.boxed W3 zl)
      have e5 := Lib.hid ((Ext.refl W3).alloc (Obj.cells (cellsOf zs).toArray 23))
      go_upto_region 11 with fail
      obtain ⟨g, hg⟩ : ∃ g, g = W3.heap.size := ⟨_, rfl⟩
      have lg : w.heap.size + 1 < g := by rw [hg]; exact heap_lt m1.out.1
      rw [← hg]
      rw [← hg] at a1
      refine wp_gen (fun W => Ur W w.heap.size 68 vs ∧ Ky W (w.heap.size + 1) zs ∧ Ky W g zs ∧ Ext w W) ⟨m0.out.kept e5.out m0.out.lt, m1.out.ext e5.out, a1.out, m2.out.trans e5.out⟩ ?_
      clear hg a1 e5 m0 m1 m2
      rintro W4 ⟨k0, k1, k2, e0⟩
      replace k0 := Lib.hid k0
      replace k1 := Lib.hid k1
      replace k2 := Lib.hid k2
      replace e0 := Lib.hid e0
      go_wp2_with fail
      go_loopw [7] (fun jv wc => ∃ (i : Nat) (ks : List UInt8), i ≤ 16 ∧ jv = .int .i64 (i : Int) ∧ ks.length = 32 ∧ (∀ j, j < 2 * i → bt ks j = bt rr j) ∧ Ur wc w.heap.size 68 vs ∧ Ky wc (w.heap.size + 1) zs ∧ Ky wc g ks ∧ Ext w wc) (fun jv _ => 16 - (intOf jv).toNat)
      case atStart => exact ⟨0, zs, Nat.zero_le _, rfl, zl, fun j hj => absurd hj (by omega), k0.out, k1.out, k2.out, e0.out⟩
      case round =>
        clear k0 k1 k2 e0
        obtain ⟨i, ks, hi, rfl, kl, kd, k0, k1, k2, e0⟩ := hrel
        by_cases hlt2 : i < 16
        · have ii : (i : Int) < 16 := by omega
          have ii0 : (0 : Int) ≤ (i : Int) := by omega
          have b1 := dg_lt v i
          have rb := RB.out i hlt2
          obtain ⟨p, hp⟩ : ∃ p, p = 2 * i := ⟨_, rfl⟩
          obtain ⟨q, hq⟩ : ∃ q, q = p + 1 := ⟨_, rfl⟩
          rw [← hp, ← hq] at rb
          have cn := k0.cell (i := i) (by omega)
          rw [WV.out i hlt2] at cn
          generalize dg v i = a at *
          obtain ⟨z, hz⟩ : ∃ z, z = a % 256 := ⟨_, rfl⟩
          obtain ⟨y, hy⟩ : ∃ y, y = a / 256 := ⟨_, rfl⟩
          rw [← hz, ← hy] at rb
          have z8 : z < 256 := by omega
          have y8 : y < 256 := by omega
          have g1 : (2 : Int) * (i : Int) = (p : Int) := by omega
          have g1w : IntKind.i64.wrap (p : Int) = (p : Int) := IntWalk.i64_in _ (by omega)
          have g2 : (p : Int) + 1 = (q : Int) := by omega
          have g2w : IntKind.i64.wrap (q : Int) = (q : Int) := IntWalk.i64_in _ (by omega)
          have p0 : (0 : Int) ≤ (p : Int) := by omega
          have p32 : (p : Int) < 32 := by omega
          have q0 : (0 : Int) ≤ (q : Int) := by omega
          have q32 : (q : Int) < 32 := by omega
          have pn : Hid (p < 32) := by unfold Hid; omega
          have qn : Hid (q < 32) := by unfold Hid; omega
          have f1 : IntKind.u8.wrap (a : Int) = (z : Int) := by rw [IntKind.wrap_u8]; omega
          have f1m : (a : Int) % 256 = (z : Int) := by omega
          have f2 : (a : Int) / 256 = (y : Int) := by omega
          have f2t : Int.tdiv (a : Int) 256 = (y : Int) := by rw [Int.tdiv_eq_ediv_of_nonneg (by omega)]; exact f2
          have f2w : IntKind.u64.wrap (y : Int) = (y : Int) := by rw [IntKind.wrap_u64]; omega
          have f3 : IntKind.u8.wrap (y : Int) = (y : Int) := by rw [IntKind.wrap_u8]; omega
          have f3m : (y : Int) % 256 = (y : Int) := by omega
          have cg := k2.cell pn.out
          have fg := k2.frozen p
          generalize bt ks p = old at *
          have gn : Hid (¬ w.heap.size = g ∧ ¬ w.heap.size + 1 = g ∧ w.heap.size ≤ g) := by unfold Hid; omega
          have z8' := Lib.hid z8
          have y8' := Lib.hid y8
          replace rb := Lib.hid rb
          replace hz := Lib.hid hz
          replace hy := Lib.hid hy
          replace hp := Lib.hid hp
          replace hq := Lib.hid hq
          replace kd := Lib.hid kd
          have cn2 : Hid (∀ s, Ur s w.heap.size 68 vs → s.cell? ⟨w.heap.size, i, none⟩ = some (.int .u64 (a : Int))) := fun s h => by
            simp only [World.cell?] at cn ⊢
            unfold Ur at h k0
            rw [k0] at cn
            rw [h]
            exact cn
          replace k0 := Lib.hid k0
          replace k1 := Lib.hid k1
          replace k2 := Lib.hid k2
          replace e0 := Lib.hid e0
          clear b1 z8 y8 RB WV
          go_upto_region 15 with fail
          refine wp_gen (fun W => Ur W w.heap.size 68 vs ∧ Ky W (w.heap.size + 1) zs ∧ Ky W g (ks.set p (UInt8.ofNat z)) ∧ Ext w W) ⟨(Below.heap_setCell _ _ _ _ gn.out.1).trans k0.out, ⟨(Below.heap_setCell _ _ _ _ gn.out.2.1).trans k1.out.1, zl⟩, k2.out.setB6 pn.out z8'.out, Ext.setCell e0.out gn.out.2.2 _⟩ ?_
          clear k0 k1 k2 e0 cn cg fg old
          rintro W5 ⟨k0, k1, k2, e0⟩
          have cn := cn2.out _ k0
          have cg := k2.cell qn.out
          have fg := k2.frozen q
          generalize bt (ks.set p (UInt8.ofNat z)) q = old at *
          replace k0 := Lib.hid k0
          replace k1 := Lib.hid k1
          replace k2 := Lib.hid k2
          replace e0 := Lib.hid e0
          go_wp2_with fail
          refine ⟨⟨i + 1, (ks.set p (UInt8.ofNat z)).set q (UInt8.ofNat y), by omega, by go_num, by rw [List.length_set, List.length_set]; exact kl, fun j hj => ?_, (Below.heap_setCell _ _ _ _ gn.out.1).trans k0.out, ⟨(Below.heap_setCell _ _ _ _ gn.out.2.1).trans k1.out.1, zl⟩, k2.out.setB6 qn.out y8'.out, Ext.setCell e0.out gn.out.2.2 _⟩, by simp [intOf]; omega⟩
          have h1 := hp.out
          have h2 := hq.out
          have h3 := pn.out
          have h4 := qn.out
          rw [bt_set (by rw [List.length_set]; omega) y8'.out]
          by_cases e : j = q
          · rw [if_pos e, e]; exact rb.out.2.symm
          · rw [if_neg e, bt_set (by omega) z8'.out]
            by_cases e2 : j = p
            · rw [if_pos e2, e2]; exact rb.out.1.symm
            · rw [if_neg e2]; exact kd.out j (by omega)
        · obtain rfl : i = 16 := by omega
          have hy : ks = rr := list_bt (by rw [kl, RL]) fun j hj => kd j (by omega)
          subst hy
          have RS : (cellsOf ks).toArray.size = 32 := by simp [cellsOf_len, kl]
          have R1 := cellsOf_one ks
          replace k1 := Lib.hid k1
          replace k2 := Lib.hid k2
          replace e0 := Lib.hid e0
          clear kd RB WV k0
          go_wp2_with (first
            | (refine wpList_load_row rfl 23 _ rfl g rfl 23 (cellsOf ks).toArray (0, 0) _ k2.out.1 rfl rfl (by rw [RS]; rfl) ?_; simp only [Act.put, List.setIfInBounds_toArray, List.set_cons_zero, List.set_cons_succ])
            | (refine wpList_store_row rfl 23 _ _ rfl (w.heap.size + 1) (cellsOf ks).toArray rfl rfl 23 _ k1.out.1 (by rw [RS]; rfl) (by rw [RS, ZS]) R1 ?_; simp only [Act.put, List.setIfInBounds_toArray, List.set_cons_zero, List.set_cons_succ]))
          (try simp only [Exit.inBlock, Exit.then])
          refine bodyPost_ret (results_cell_row rfl _ _ (w.heap.size + 1) 23 (cellsOf ks).toArray (0, 0) _ rfl (setRow_heap _ _ _ _ _ _ k1.out.1) rfl rfl (by rw [RS]; rfl)) rfl ?_
          exact ⟨rfl, below_setRow e0.out (by omega) _⟩
end Go.Proofs.YtfhafednnnfmbaaDoor
