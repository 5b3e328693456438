/-
  Inv.
-/
import Derived.Test.YtadnmiedmcckkaaDoorFldOf
namespace Go.Proofs.YtadnmiedmcckkaaDoor
open Go.ChangeShapes Go.WideShapes Go.ChangeAt Go.RowKit Go.Deep
set_option maxRecDepth 100000

/-- The power behind m bits. -/
def iA (x : Nat) : Nat → Nat
  | 0 => 1
  | m + 1 => if m = 252 ∨ m = 250 then iA x m * iA x m % P25 else iA x m * iA x m % P25 * x % P25
theorem iA_lt (x : Nat) : ∀ m, iA x m < P25
  | 0 => by rw [iA]; decide +kernel
  | m + 1 => by rw [iA]; split <;> exact Nat.mod_lt _ P25_pos
def invF (x : Nat) : Nat := iA x 255
theorem invF_lt (x : Nat) : invF x < P25 := iA_lt x 255
def oneW : List Nat := [1, 0, 0, 0, 0, 0, 0, 0]
theorem oneW_eq : oneW = lbs 8 1 := by decide
theorem oneW_built : Tryd.prog.built 55 [(0, .int .u32 1)] = some (wcells oneW).toArray := by kernel_rfl

set_option maxHeartbeats 4000000 in
theorem inv_calls {x : Nat} {w : World} (hx : x < P25) {tg : TypeId × Nat × Nat} (hG : Gp w tg) :
    Calls Tryd.prog 36 #[eV x] w fun e w' => e = .returned (eV (invF x)) ∧ Ext w w' := by
  have SQ : Hid (∀ (W : World) m, Ext w W → Calls Tryd.prog 35 #[.agg (wcells (lbs 8 (iA x m))).toArray, .agg (wcells (lbs 8 (iA x m))).toArray] W fun e w' => e = .returned (.agg (wcells (lbs 8 (iA x m * iA x m % P25))).toArray) ∧ Ext W w') := fun W m e => emul_calls (iA_lt x m) (iA_lt x m) (hG.ext e)
  have MX : Hid (∀ (W : World) m, Ext w W → Calls Tryd.prog 35 #[.agg (wcells (lbs 8 (iA x m * iA x m % P25))).toArray, .agg (wcells (lbs 8 x)).toArray] W fun e w' => e = .returned (.agg (wcells (lbs 8 (iA x m * iA x m % P25 * x % P25))).toArray) ∧ Ext W w') := fun W m e => emul_calls (Nat.mod_lt _ P25_pos) hx (hG.ext e)
  have IS : Hid (∀ m, (m = 252 ∨ m = 250) → lbs 8 (iA x (m + 1)) = lbs 8 (iA x m * iA x m % P25)) := fun m h => by rw [iA, if_pos h]
  have IN : Hid (∀ m, ¬ (m = 252 ∨ m = 250) → lbs 8 (iA x (m + 1)) = lbs 8 (iA x m * iA x m % P25 * x % P25)) := fun m h => by rw [iA, if_neg h]
  have LL : Hid (∀ m, (lbs 8 (iA x m)).length = 8) := fun m => lbs_len _ _
  have LS : Hid (∀ m, (lbs 8 (iA x m * iA x m % P25)).length = 8) := fun m => lbs_len _ _
  have LN : Hid (∀ m, (lbs 8 (iA x m * iA x m % P25 * x % P25)).length = 8) := fun m => lbs_len _ _
  obtain ⟨f, hf⟩ : ∃ f : Nat → List Nat, f = fun m => lbs 8 (iA x m) := ⟨_, rfl⟩
  obtain ⟨g, hg⟩ : ∃ g : Nat → List Nat, g = fun m => lbs 8 (iA x m * iA x m % P25) := ⟨_, rfl⟩
  obtain ⟨h, hh⟩ : ∃ h : Nat → List Nat, h = fun m => lbs 8 (iA x m * iA x m % P25 * x % P25) := ⟨_, rfl⟩
  have f0 : Hid (f 0 = oneW) := by unfold Hid; rw [hf, oneW_eq]; rfl
  have f255 : Hid (f 255 = lbs 8 (invF x)) := by unfold Hid; rw [hf]; rfl
  have SQ' : Hid (∀ (W : World) m, Ext w W → Calls Tryd.prog 35 #[.agg (wcells (f m)).toArray, .agg (wcells (f m)).toArray] W fun e w' => e = .returned (.agg (wcells (g m)).toArray) ∧ Ext W w') := by rw [hf, hg]; exact SQ
  have MX' : Hid (∀ (W : World) m, Ext w W → Calls Tryd.prog 35 #[.agg (wcells (g m)).toArray, .agg (wcells (lbs 8 x)).toArray] W fun e w' => e = .returned (.agg (wcells (h m)).toArray) ∧ Ext W w') := by rw [hg, hh]; exact MX
  have IS' : Hid (∀ m, (m = 252 ∨ m = 250) → f (m + 1) = g m) := by rw [hf, hg]; exact IS
  have IN' : Hid (∀ m, ¬ (m = 252 ∨ m = 250) → f (m + 1) = h m) := by rw [hf, hh]; exact IN
  have FL : Hid (∀ m, (f m).length = 8) := by rw [hf]; exact LL
  have GL : Hid (∀ m, (g m).length = 8) := by rw [hg]; exact LS
  have HL : Hid (∀ m, (h m).length = 8) := by rw [hh]; exact LN
  clear SQ MX IS IN LL LS LN hf hg hh hG hx
  unfold eV
  have XL := lbs_len 8 x
  have RL := lbs_len 8 (invF x)
  generalize lbs 8 (invF x) = rr at *
  generalize lbs 8 x = xs at *
  have XS := wcells_size XL
  have RS := wcells_size RL
  have OR := wcells_one rr
  have O1L : oneW.length = 8 := rfl
  have hb1 := Lib.hid oneW_built
  generalize oneW = ow at *
  have OS := wcells_size O1L
  have O1 := wcells_one ow
  have hb2 : Hid (Tryd.prog.built 57 [(0, .agg (wcells ow).toArray)] = some (wcells ow).toArray) := elem_built OS
  have hal2 := elem_alloc
  have ZL : zw8.length = 8 := rfl
  generalize zw8 = zs at *
  have ZS := wcells_size ZL
  have B0 : Hid (Wr (((w.alloc (Obj.cells (wcells xs).toArray 57)).alloc (Obj.cells (wcells zs).toArray 57)).alloc (Obj.cells (wcells zs).toArray 57)) w.heap.size 57 xs ∧ Wr (((w.alloc (Obj.cells (wcells xs).toArray 57)).alloc (Obj.cells (wcells zs).toArray 57)).alloc (Obj.cells (wcells zs).toArray 57)) (w.heap.size + 1) 57 zs ∧ Wr (((w.alloc (Obj.cells (wcells xs).toArray 57)).alloc (Obj.cells (wcells zs).toArray 57)).alloc (Obj.cells (wcells zs).toArray 57)) (w.heap.size + 1 + 1) 57 zs ∧ Ext w (((w.alloc (Obj.cells (wcells xs).toArray 57)).alloc (Obj.cells (wcells zs).toArray 57)).alloc (Obj.cells (wcells zs).toArray 57))) := ⟨heap_alloc30 _ _ _ _, heap_alloc31 _ _ _ _, heap_alloc32 _ _ _ _, (((Ext.refl w).alloc _).alloc _).alloc _⟩
  go_enter Tryd.func36, Tryd.ntmps36
  go_upto_region 2 with (first
    | (refine wpList_build_as rfl _ _ rfl (wcells ow).toArray (by simp only [List.map_toArray, List.map_cons, List.map_nil]; first | exact hb1.out | exact hb2.out) ?_; simp only [Act.put, List.setIfInBounds_toArray, List.set_cons_zero, List.set_cons_succ])
    | (refine wpList_store_row rfl 57 _ _ rfl (w.heap.size + 1 + 1) (wcells ow).toArray rfl rfl 57 _ B0.out.2.2.1 (by rw [OS]; rfl) (by rw [OS, ZS]) O1 ?_; simp only [Act.put, List.setIfInBounds_toArray, List.set_cons_zero, List.set_cons_succ]))
  refine wp_gen (fun W => Wr W w.heap.size 57 xs ∧ Wr W (w.heap.size + 1) 57 zs ∧ Wr W (w.heap.size + 1 + 1) 57 ow ∧ Ext w W) ⟨(setRow_other _ _ _ _ (by omega)).trans B0.out.1, (setRow_other _ _ _ _ (by omega)).trans B0.out.2.1, setRow_heap _ _ _ _ _ _ B0.out.2.2.1, below_setRow B0.out.2.2.2 (by omega) _⟩ ?_
  clear B0
  rintro W0 ⟨wa, we, wc4, e0⟩
  replace wa := Lib.hid wa
  replace we := Lib.hid we
  replace wc4 := Lib.hid wc4
  replace e0 := Lib.hid e0
  go_wp2_with fail
  go_loopw [4] (fun iv wr => ∃ m : Nat, m ≤ 255 ∧ iv = .int .i64 (254 - (m : Int)) ∧ Below (w.heap.size + 1 + 1) W0 wr ∧ Wr wr (w.heap.size + 1 + 1) 57 (f m)) (fun iv _ => (intOf iv + 1).toNat)
  case atStart => exact ⟨0, Nat.zero_le _, rfl, Below.refl _ _, by rw [f0.out]; exact wc4.out⟩
  case round =>
    obtain ⟨m, hm, rfl, hB, hw⟩ := hrel
    clear wc4
    by_cases hlt : m < 255
    · obtain ⟨b, hb⟩ : ∃ b : Int, b = 254 - (m : Int) := ⟨_, rfl⟩
      rw [← hb]
      have b0 : (0 : Int) ≤ b := by omega
      have b1 : b ≤ 254 := by omega
      have bw : IntKind.i64.wrap (b - 1) = b - 1 := IntWalk.i64_in _ (by omega)
      have hbn : Hid (b - 1 = 254 - ((m + 1 : Nat) : Int)) := by unfold Hid; omega
      have hme : Hid ((b - 1 + 1).toNat < (b + 1).toNat) := by unfold Hid; omega
      have FM := FL.out m
      have GM := GL.out m
      have HM := HL.out m
      have SQm := Lib.hid (fun W e => SQ'.out W m e)
      have MXm := Lib.hid (fun W e => MX'.out W m e)
      have FS := wcells_size FM
      have GS := wcells_size GM
      have HS := wcells_size HM
      have G1 := wcells_one (g m)
      have H1 := wcells_one (h m)
      have CASE : Hid (((b = 2 ∨ b = 4) ∧ f (m + 1) = g m) ∨ ((¬ b = 2 ∧ ¬ b = 4) ∧ f (m + 1) = h m)) := by
        unfold Hid
        by_cases q : m = 252 ∨ m = 250
        · exact .inl ⟨by omega, IS'.out m q⟩
        · exact .inr ⟨by omega, IN'.out m q⟩
      generalize f m = fm at *
      generalize g m = gm at *
      generalize h m = hm' at *
      obtain ⟨fn, hfn⟩ : ∃ fn, fn = f (m + 1) := ⟨_, rfl⟩
      rw [← hfn] at CASE
      replace hfn := Lib.hid hfn
      replace hb := Lib.hid hb
      have xw : Hid (Ext w wr) := Below.trans e0.out (hB.mono (by omega))
      replace hB := Lib.hid hB
      replace hw := Lib.hid hw
      go_wp2_with (refine wpList_load_row rfl 57 _ rfl (w.heap.size + 1 + 1) rfl 57 (wcells fm).toArray (0, 0) _ hw.out rfl rfl (by rw [FS]; rfl) ?_; simp only [Act.put, List.setIfInBounds_toArray, List.set_cons_zero, List.set_cons_succ])
      refine (SQm.out _ xw.out).mono ?_
      rintro e w1 ⟨rfl, e1⟩
      have r1 := Lib.hid (hw.out.kept e1 hw.out.lt)
      have hB1 : Hid (Below (w.heap.size + 1 + 1) W0 w1) := Below.trans hB.out (e1.mono (Nat.le_of_lt hw.out.lt))
      go_upto_region 6 with (refine wpList_store_row rfl 57 _ _ rfl (w.heap.size + 1 + 1) (wcells gm).toArray rfl rfl 57 _ r1.out (by rw [GS]; rfl) (by rw [GS, FS]) G1 ?_; simp only [Act.put, List.setIfInBounds_toArray, List.set_cons_zero, List.set_cons_succ])
      refine wp_gen (fun W => Wr W (w.heap.size + 1 + 1) 57 gm ∧ Below (w.heap.size + 1 + 1) W0 W) ⟨setRow_heap _ _ _ _ _ _ r1.out, below_setRow hB1.out (Nat.le_refl _) _⟩ ?_
      clear r1 hB1 e1 hw hB xw
      rintro w2 ⟨hw, hB⟩
      have xw : Hid (Ext w w2) := Below.trans e0.out (hB.mono (by omega))
      have ka := Lib.hid (wa.out.kept hB (by omega))
      replace hB := Lib.hid hB
      replace hw := Lib.hid hw
      rcases CASE.out with ⟨hbb, rfl⟩ | ⟨⟨n2, n4⟩, rfl⟩
      · clear CASE
        rcases hbb with rfl | rfl
        · go_wp2_with fail
          refine ⟨⟨m + 1, by omega, by rw [← hbn.out]; rfl, hB.out, by rw [← hfn.out]; exact hw.out⟩, by simp [intOf]⟩
        · go_wp2_with fail
          refine ⟨⟨m + 1, by omega, by rw [← hbn.out]; rfl, hB.out, by rw [← hfn.out]; exact hw.out⟩, by simp [intOf]⟩
      · clear CASE
        have n2b : (b != 2) = true := by simpa using n2
        have n4b : (b != 4) = true := by simpa using n4
        go_wp2_with (first
          | (refine wpList_load_row rfl 57 _ rfl (w.heap.size + 1 + 1) rfl 57 (wcells gm).toArray (0, 0) _ hw.out rfl rfl (by rw [GS]; rfl) ?_; simp only [Act.put, List.setIfInBounds_toArray, List.set_cons_zero, List.set_cons_succ])
          | (refine wpList_load_row rfl 57 _ rfl w.heap.size rfl 57 (wcells xs).toArray (0, 0) _ ka.out rfl rfl (by rw [XS]; rfl) ?_; simp only [Act.put, List.setIfInBounds_toArray, List.set_cons_zero, List.set_cons_succ]))
        refine (MXm.out _ xw.out).mono ?_
        rintro e w3 ⟨rfl, e1⟩
        have r1 := Lib.hid (hw.out.kept e1 hw.out.lt)
        have hB1 : Hid (Below (w.heap.size + 1 + 1) W0 w3) := Below.trans hB.out (e1.mono (Nat.le_of_lt hw.out.lt))
        go_wp2_with (refine wpList_store_row rfl 57 _ _ rfl (w.heap.size + 1 + 1) (wcells fn).toArray rfl rfl 57 _ r1.out (by rw [HS]; rfl) (by rw [HS, GS]) H1 ?_; simp only [Act.put, List.setIfInBounds_toArray, List.set_cons_zero, List.set_cons_succ])
        refine ⟨⟨m + 1, by omega, by rw [← hbn.out], below_setRow hB1.out (Nat.le_refl _) _, by rw [← hfn.out]; exact setRow_heap _ _ _ _ _ _ r1.out⟩, by simp [intOf]; omega⟩
    · obtain rfl : m = 255 := by omega
      rw [f255.out] at hw
      have we1 := Lib.hid (we.out.kept hB (by omega))
      have EE : Hid (Ext w wr) := Below.trans e0.out (hB.mono (by omega))
      replace hw := Lib.hid hw
      clear hB e0 we wa
      go_wp2_with (first
        | (refine wpList_load_row rfl 57 _ rfl (w.heap.size + 1 + 1) rfl 57 (wcells rr).toArray (0, 0) _ hw.out rfl rfl (by rw [RS]; rfl) ?_; simp only [Act.put, List.setIfInBounds_toArray, List.set_cons_zero, List.set_cons_succ])
        | (refine wpList_store_row rfl 57 _ _ rfl (w.heap.size + 1) (wcells rr).toArray rfl rfl 57 _ we1.out (by rw [RS]; rfl) (by rw [RS, ZS]) OR ?_; simp only [Act.put, List.setIfInBounds_toArray, List.set_cons_zero, List.set_cons_succ]))
      (try simp only [Exit.inBlock, Exit.then])
      refine bodyPost_ret (results_cell_row rfl _ _ (w.heap.size + 1) 57 (wcells rr).toArray (0, 0) _ rfl (setRow_heap _ _ _ _ _ _ we1.out) rfl rfl (by rw [RS]; rfl)) rfl ?_
      exact ⟨rfl, below_setRow EE.out (by omega) _⟩
end Go.Proofs.YtadnmiedmcckkaaDoor
