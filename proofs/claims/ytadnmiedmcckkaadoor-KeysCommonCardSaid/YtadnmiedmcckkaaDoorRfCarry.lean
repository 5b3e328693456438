import Derived.Test.YtadnmiedmcckkaaDoorPkI
import Derived.Test.YtadnmiedmcckkaaDoorFldInv
/-
  palfreyref06.carried.
-/
namespace Go.Proofs.YtadnmiedmcckkaaDoor
open Go.ChangeShapes Go.WideShapes Go.ChangeAt Go.RowKit Go.Deep
set_option maxRecDepth 100000

def zd16 : List Nat := List.replicate 16 0
theorem num_alloc (w : World) : (zeroValue 33).run Tryd.prog w = .ok (.agg (ucells zd16).toArray) w := by kernel_rfl
theorem words_dgs {vs : List Nat} {x : Nat} (hl : vs.length = 16) (h : ∀ j, j < 16 → wd vs j = dg x j) : vs = dgs 16 x := by
  refine List.ext_getElem (by rw [dgs_len, hl]) fun i h1 h2 => ?_
  have := h i (by omega)
  simp [wd, List.getD, h1] at this
  simp [dgs, this]
/-- The digits behind so many rounds. -/
def RL (ds : List Nat) : Nat → List Nat
  | 0 => ds
  | k + 1 => rd (pV (RL ds k) 16)
def Dig (ds : List Nat) : Prop := ds.length = 16 ∧ ∀ i, i < 16 → wd ds i < 576460752303423488
theorem Dig.top {ds : List Nat} (h : Dig ds) : pV ds 16 / B16 < 17592186044416 := by
  have := cR_lt (n := 16) h.2 16 (Nat.le_refl _)
  rw [cR, B16_eq] at this
  exact this
theorem RL_dig {ds : List Nat} (h : Dig ds) : ∀ k, Dig (RL ds k)
  | 0 => h
  | k + 1 => ⟨rd_len _, rd_lt (RL_dig h k).top⟩
/-- What carried makes of digits. -/
def cN (ds : List Nat) : Nat := rr (rr (pV ds 16))
theorem RL_end {ds : List Nat} (h : Dig ds) : RL ds 4 = dgs 16 (cN ds) := by
  have h1 := rr_small h.top
  have e1 : pV (RL ds 1) 16 = rr (pV ds 16) := rd_val _
  have e2 : pV (RL ds 2) 16 = cN ds := by rw [show RL ds 2 = rd (pV (RL ds 1) 16) from rfl, rd_val, e1]; rfl
  have e3 : pV (RL ds 3) 16 = cN ds := by rw [show RL ds 3 = rd (pV (RL ds 2) 16) from rfl, rd_val, e2]; exact rr_id h1
  rw [show RL ds 4 = rd (pV (RL ds 3) 16) from rfl, e3]
  exact rd_dgs h1
theorem cN_lt {ds : List Nat} (h : Dig ds) : cN ds < B16 := rr_small h.top
theorem cN_mod (ds : List Nat) : cN ds % P25 = pV ds 16 % P25 := by unfold cN; rw [rr_mod, rr_mod]

set_option maxHeartbeats 4000000 in
theorem carried_calls {ds : List Nat} {w : World} (hd : Dig ds) :
    Calls Tryd.prog 43 #[.agg (ucells ds).toArray] w fun e w' => e = .returned (.agg (ucells (dgs 16 (cN ds))).toArray) ∧ Ext w w' := by
  have hal := num_alloc
  have ZL : zd16.length = 16 := rfl
  generalize zd16 = zs at *
  have ZS := ucells_size ZL
  have RD : Hid (∀ k, Dig (RL ds k)) := RL_dig hd
  have RE := Lib.hid (RL_end hd)
  obtain ⟨R, hR⟩ : ∃ R : Nat → List Nat, R = RL ds := ⟨_, rfl⟩
  have RS : Hid (∀ (k : Nat) (_ : Unit), rd (pV (R k) 16) = R (k + 1)) := fun k _ => by rw [hR]; rfl
  have R0 : Hid (∀ _ : Unit, R 0 = ds) := fun _ => by rw [hR]; rfl
  rw [← hR] at RD RE
  clear hR
  generalize dgs 16 (cN ds) = rs at *
  have B0 : Hid (Ur ((w.alloc (Obj.cells (ucells ds).toArray 33)).alloc (Obj.cells (ucells zs).toArray 33)) w.heap.size 33 ds ∧ Ur ((w.alloc (Obj.cells (ucells ds).toArray 33)).alloc (Obj.cells (ucells zs).toArray 33)) (w.heap.size + 1) 33 zs ∧ Ext w ((w.alloc (Obj.cells (ucells ds).toArray 33)).alloc (Obj.cells (ucells zs).toArray 33))) := ⟨heap_alloc1 _ _ _, heap_alloc2 _ _ _, ((Ext.refl w).alloc _).alloc _⟩
  clear hd
  go_enter Tryd.func43, Tryd.ntmps43
  go_upto_region 1 with fail
  refine wp_gen (fun W => Ur W w.heap.size 33 ds ∧ Ur W (w.heap.size + 1) 33 zs ∧ Ext w W) B0.out ?_
  clear B0
  rintro W0 ⟨k0, k1, e0⟩
  replace k0 := Lib.hid k0
  replace k1 := Lib.hid k1
  replace e0 := Lib.hid e0
  go_wp2_with fail
  go_loopw [3] (fun iv wr => ∃ k : Nat, k ≤ 4 ∧ iv = .int .i64 (k : Int) ∧ Ur wr w.heap.size 33 (R k) ∧ Ur wr (w.heap.size + 1) 33 zs ∧ Ext w wr) (fun iv _ => 4 - (intOf iv).toNat)
  case atStart => exact ⟨0, Nat.zero_le _, rfl, by rw [R0.out ()]; exact k0.out, k1.out, e0.out⟩
  case round =>
    clear k0 k1 e0 R0
    obtain ⟨k, hk, rfl, k0, k1, e0⟩ := hrel
    replace k0 := Lib.hid k0
    replace k1 := Lib.hid k1
    replace e0 := Lib.hid e0
    by_cases hlt : k < 4
    · have ik : (k : Int) < 4 := by omega
      have ik0 : (0 : Int) ≤ (k : Int) := by omega
      have VL := (RD.out k).1
      have VB : Hid (∀ i, i < 16 → wd (R k) i < 576460752303423488) := (RD.out k).2
      have HN := Lib.hid (RS.out k)
      have DG : Hid (∀ i, i < 16 → dg (pV (R k) 16) i = (wd (R k) i + cR (R k) i) % 65536) := fun i hi => dg_pV _ hi
      have CS : Hid (∀ i, cR (R k) (i + 1) = (wd (R k) i + cR (R k) i) / 65536) := cR_succ _
      have CB : Hid (∀ i, i ≤ 16 → cR (R k) i < 17592186044416) := cR_lt (RD.out k).2
      have C0 := Lib.hid (cR_zero (R k))
      have C16 : Hid (cR (R k) 16 = pV (R k) 16 / B16) := by unfold Hid; rw [cR, B16_eq]
      clear RD RE RS
      obtain ⟨rn, hrn⟩ : ∃ rn, rn = R (k + 1) := ⟨_, rfl⟩
      rw [← hrn] at HN
      replace hrn := Lib.hid hrn
      generalize R k = vs at *
      obtain ⟨V, hV⟩ : ∃ V, V = pV vs 16 := ⟨_, rfl⟩
      rw [← hV] at HN DG C16
      clear hV
      go_wp2_with fail
      go_loopw [4, 5] (fun cv jv wr => ∃ (i : Nat) (us : List Nat), i ≤ 16 ∧ jv = .int .i64 (i : Int) ∧ cv = .int .u64 (cR vs i : Int) ∧ us.length = 16 ∧ (∀ j, j < i → wd us j = dg V j) ∧ (∀ j, i ≤ j → wd us j = wd vs j) ∧ Ur wr w.heap.size 33 us ∧ Ur wr (w.heap.size + 1) 33 zs ∧ Ext w wr) (fun _ jv _ => 16 - (intOf jv).toNat)
      case atStart => exact ⟨0, vs, Nat.zero_le _, rfl, by rw [C0.out]; rfl, VL, fun j hj => absurd hj (by omega), fun _ _ => rfl, k0.out, k1.out, e0.out⟩
      case round =>
        clear k0 k1 e0 C0
        obtain ⟨i, us, hi, rfl, rfl, ul, ud, ur, k0, k1, e0⟩ := hrel
        by_cases hlt2 : i < 16
        · have ii : (i : Int) < 16 := by omega
          have ii0 : (0 : Int) ≤ (i : Int) := by omega
          have cv := k0.cell (i := i) (by omega)
          have fv := k0.frozen i
          rw [ur i (Nat.le_refl _)] at cv
          have b1 := VB.out i hlt2
          have b2 := CB.out i (by omega)
          have hz := Lib.hid (DG.out i hlt2)
          have hc := Lib.hid (CS.out i)
          generalize wd vs i = a at *
          generalize cR vs i = c at *
          obtain ⟨T, hT⟩ : ∃ T, T = a + c := ⟨_, rfl⟩
          obtain ⟨z, hzz⟩ : ∃ z, z = T % 65536 := ⟨_, rfl⟩
          obtain ⟨d, hd⟩ : ∃ d, d = T / 65536 := ⟨_, rfl⟩
          rw [← hT, ← hzz] at hz
          rw [← hT, ← hd] at hc
          have f4 : (a : Int) + (c : Int) = (T : Int) := by omega
          have f4w : IntKind.u64.wrap (T : Int) = (T : Int) := by rw [IntKind.wrap_u64]; omega
          have f5 : (T : Int) % 65536 = (z : Int) := by omega
          have f5t : Int.tmod (T : Int) 65536 = (z : Int) := by rw [Int.tmod_eq_emod_of_nonneg (by omega)]; exact f5
          have f5w : IntKind.u64.wrap (z : Int) = (z : Int) := by rw [IntKind.wrap_u64]; omega
          have f6 : (T : Int) / 65536 = (d : Int) := by omega
          have f6t : Int.tdiv (T : Int) 65536 = (d : Int) := by rw [Int.tdiv_eq_ediv_of_nonneg (by omega)]; exact f6
          have f6w : IntKind.u64.wrap (d : Int) = (d : Int) := by rw [IntKind.wrap_u64]; omega
          have Tlt : T < 18446744073709551616 := by omega
          have il : Hid (i < us.length) := by unfold Hid; omega
          have gne : Hid (¬ w.heap.size + 1 = w.heap.size) := by unfold Hid; omega
          replace hT := Lib.hid hT
          replace hzz := Lib.hid hzz
          replace hd := Lib.hid hd
          replace ud := Lib.hid ud
          replace ur := Lib.hid ur
          replace k0 := Lib.hid k0
          replace k1 := Lib.hid k1
          replace e0 := Lib.hid e0
          clear b1 b2
          go_wp2_with fail
          refine ⟨⟨i + 1, us.set i z, by omega, by go_num, by rw [hc.out], by rw [List.length_set]; exact ul, fun j hj => ?_, fun j hj => ?_, k0.out.set, (Below.heap_setCell _ _ _ _ gne.out).trans k1.out, Ext.setCell e0.out (Nat.le_refl _) _⟩, by simp [intOf]; omega⟩
          · rw [wd_set il.out]
            by_cases e : j = i
            · rw [if_pos e, e]; exact hz.out.symm
            · rw [if_neg e]; exact ud.out j (by omega)
          · rw [wd_set il.out, if_neg (by omega)]; exact ur.out j (by omega)
        · obtain rfl : i = 16 := by omega
          have hu := words_dgs ul ud
          have c0 := k0.cell (i := 0) (by omega)
          have fv := k0.frozen 0
          rw [ud 0 (by omega)] at c0
          have b1 := dg_lt V 0
          have b2 := CB.out 16 (Nat.le_refl _)
          have hrd : Hid (∀ _ : Unit, us.set 0 (dg V 0 + 38 * cR vs 16) = rn) := fun _ => by rw [← HN.out (), C16.out, hu]; rfl
          generalize dg V 0 = a at *
          generalize cR vs 16 = c at *
          obtain ⟨p, hp⟩ : ∃ p, p = 38 * c := ⟨_, rfl⟩
          obtain ⟨T, hT⟩ : ∃ T, T = a + p := ⟨_, rfl⟩
          rw [← hp, ← hT] at hrd
          have f3 : (38 : Int) * (c : Int) = (p : Int) := by omega
          have f3w : IntKind.u64.wrap (p : Int) = (p : Int) := by rw [IntKind.wrap_u64]; omega
          have f4 : (a : Int) + (p : Int) = (T : Int) := by omega
          have f4w : IntKind.u64.wrap (T : Int) = (T : Int) := by rw [IntKind.wrap_u64]; omega
          have gne : Hid (¬ w.heap.size + 1 = w.heap.size) := by unfold Hid; omega
          replace hp := Lib.hid hp
          replace hT := Lib.hid hT
          replace k0 := Lib.hid k0
          replace k1 := Lib.hid k1
          replace e0 := Lib.hid e0
          clear b1 b2 ud ur hu HN DG CS CB C16 VB hlt2 hi
          go_wp2_with fail
          refine ⟨⟨k + 1, by omega, by go_num, ?_, (Below.heap_setCell _ _ _ _ gne.out).trans k1.out, Ext.setCell e0.out (Nat.le_refl _) _⟩, by simp [intOf]; omega⟩
          rw [← hrn.out, ← hrd.out ()]
          exact k0.out.set
    · obtain rfl : k = 4 := by omega
      rw [RE.out] at k0
      have L4 : Hid (rs.length = 16) := by unfold Hid; rw [← RE.out]; exact (RD.out 4).1
      have RSZ := ucells_size L4.out
      have R1 := ucells_one rs
      clear RD RE RS L4
      go_wp2_with (first
        | (refine wpList_load_row rfl 33 _ rfl w.heap.size rfl 33 (ucells rs).toArray (0, 0) _ k0.out rfl rfl (by rw [RSZ]; rfl) ?_; simp only [Act.put, List.setIfInBounds_toArray, List.set_cons_zero, List.set_cons_succ])
        | (refine wpList_store_row rfl 33 _ _ rfl (w.heap.size + 1) (ucells rs).toArray rfl rfl 33 _ k1.out (by rw [RSZ]; rfl) (by rw [RSZ, ZS]) R1 ?_; simp only [Act.put, List.setIfInBounds_toArray, List.set_cons_zero, List.set_cons_succ]))
      (try simp only [Exit.inBlock, Exit.then])
      refine bodyPost_ret (results_cell_row rfl _ _ (w.heap.size + 1) 33 (ucells rs).toArray (0, 0) _ rfl (setRow_heap _ _ _ _ _ _ k1.out) rfl rfl (by rw [RSZ]; rfl)) rfl ?_
      exact ⟨rfl, below_setRow e0.out (by omega) _⟩
end Go.Proofs.YtadnmiedmcckkaaDoor
