import Derived.Test.YtfhafednnnfmbaaDoorFldOf
import Derived.Test.YtfhafednnnfmbaaDoorPratt
import Derived.Test.YtfhafednnnfmbaaDoorPkR
import Derived.Test.YtfhafednnnfmbaaDoorPkU
import Derived.Test.YtfhafednnnfmbaaDoorSameL
import Derived.RegionTactic
import Derived.Test.YtfhafednnnfmbaaDoorMix
section
/-
  Inv.
-/
namespace Go.Proofs.YtfhafednnnfmbaaDoor
open Go.ChangeShapes Go.WideShapes Go.ChangeAt Go.RowKit Go.Deep
set_option maxRecDepth 100000

/-- The power behind m bits. -/
def iA (x : Nat) : Nat → Nat
  | 0 => 1
  | m + 1 => if m = 252 ∨ m = 250 then iA x m * iA x m % P25 else iA x m * iA x m % P25 * x % P25
theorem iA_lt (x : Nat) : ∀ m, iA x m < P25
  | 0 => by rw [iA]; decide +kernel
  | m + 1 => by rw [iA]; split <;> exact Nat.mod_lt _ P25_pos
def invF (x : Nat) : Nat := iA x 255
theorem invF_lt (x : Nat) : invF x < P25 := iA_lt x 255
def oneW : List Nat := [1, 0, 0, 0, 0, 0, 0, 0]
theorem oneW_eq : oneW = lbs 8 1 := by decide
theorem oneW_built : Tryd.prog.built 79 [(0, .int .u32 1)] = some (wcells oneW).toArray := by kernel_rfl

set_option maxHeartbeats 4000000 in
theorem inv_calls {x : Nat} {w : World} (hx : x < P25) {tg : TypeId × Nat × Nat} (hG : Gp w tg) :
    Calls Tryd.prog 49 #[eV x] w fun e w' => e = .returned (eV (invF x)) ∧ Ext w w' := by
  have SQ : Hid (∀ (W : World) m, Ext w W → Calls Tryd.prog 48 #[.agg (wcells (lbs 8 (iA x m))).toArray, .agg (wcells (lbs 8 (iA x m))).toArray] W fun e w' => e = .returned (.agg (wcells (lbs 8 (iA x m * iA x m % P25))).toArray) ∧ Ext W w') := fun W m e => emul_calls (iA_lt x m) (iA_lt x m) (hG.ext e)
  have MX : Hid (∀ (W : World) m, Ext w W → Calls Tryd.prog 48 #[.agg (wcells (lbs 8 (iA x m * iA x m % P25))).toArray, .agg (wcells (lbs 8 x)).toArray] W fun e w' => e = .returned (.agg (wcells (lbs 8 (iA x m * iA x m % P25 * x % P25))).toArray) ∧ Ext W w') := fun W m e => emul_calls (Nat.mod_lt _ P25_pos) hx (hG.ext e)
  have IS : Hid (∀ m, (m = 252 ∨ m = 250) → lbs 8 (iA x (m + 1)) = lbs 8 (iA x m * iA x m % P25)) := fun m h => by rw [iA, if_pos h]
  have IN : Hid (∀ m, ¬ (m = 252 ∨ m = 250) → lbs 8 (iA x (m + 1)) = lbs 8 (iA x m * iA x m % P25 * x % P25)) := fun m h => by rw [iA, if_neg h]
  have LL : Hid (∀ m, (lbs 8 (iA x m)).length = 8) := fun m => lbs_len _ _
  have LS : Hid (∀ m, (lbs 8 (iA x m * iA x m % P25)).length = 8) := fun m => lbs_len _ _
  have LN : Hid (∀ m, (lbs 8 (iA x m * iA x m % P25 * x % P25)).length = 8) := fun m => lbs_len _ _
  obtain ⟨f, hf⟩ : ∃ f : Nat → List Nat, f = fun m => lbs 8 (iA x m) := ⟨_, rfl⟩
  obtain ⟨g, hg⟩ : ∃ g : Nat → List Nat, g = fun m => lbs 8 (iA x m * iA x m % P25) := ⟨_, rfl⟩
  obtain ⟨h, hh⟩ : ∃ h : Nat → List Nat, h = fun m => lbs 8 (iA x m * iA x m % P25 * x % P25) := ⟨_, rfl⟩
  have f0 : Hid (f 0 = oneW) := by unfold Hid; rw [hf, oneW_eq]; rfl
  have f255 : Hid (f 255 = lbs 8 (invF x)) := by unfold Hid; rw [hf]; rfl
  have SQ' : Hid (∀ (W : World) m, Ext w W → Calls Tryd.prog 48 #[.agg (wcells (f m)).toArray, .agg (wcells (f m)).toArray] W fun e w' => e = .returned (.agg (wcells (g m)).toArray) ∧ Ext W w') := by rw [hf, hg]; exact SQ
  have MX' : Hid (∀ (W : World) m, Ext w W → Calls Tryd.prog 48 #[.agg (wcells (g m)).toArray, .agg (wcells (lbs 8 x)).toArray] W fun e w' => e = .returned (.agg (wcells (h m)).toArray) ∧ Ext W w') := by rw [hg, hh]; exact MX
  have IS' : Hid (∀ m, (m = 252 ∨ m = 250) → f (m + 1) = g m) := by rw [hf, hg]; exact IS
  have IN' : Hid (∀ m, ¬ (m = 252 ∨ m = 250) → f (m + 1) = h m) := by rw [hf, hh]; exact IN
  have FL : Hid (∀ m, (f m).length = 8) := by rw [hf]; exact LL
  have GL : Hid (∀ m, (g m).length = 8) := by rw [hg]; exact LS
  have HL : Hid (∀ m, (h m).length = 8) := by rw [hh]; exact LN
  clear SQ MX IS IN LL LS LN hf hg hh hG hx
  unfold eV
  have XL := lbs_len 8 x
  have RL := lbs_len 8 (invF x)
  generalize lbs 8 (invF x) = rr at *
  generalize lbs 8 x = xs at *
  have XS := wcells_size XL
  have RS := wcells_size RL
  have OR := wcells_one rr
  have O1L : oneW.length = 8 := rfl
  have hb1 := Lib.hid oneW_built
  generalize oneW = ow at *
  have OS := wcells_size O1L
  have O1 := wcells_one ow
  have hb2 : Hid (Tryd.prog.built 81 [(0, .agg (wcells ow).toArray)] = some (wcells ow).toArray) := elem_built OS
  have hal2 := elem_alloc
  have ZL : zw8.length = 8 := rfl
  generalize zw8 = zs at *
  have ZS := wcells_size ZL
  have B0 : Hid (Wr (((w.alloc (Obj.cells (wcells xs).toArray 81)).alloc (Obj.cells (wcells zs).toArray 81)).alloc (Obj.cells (wcells zs).toArray 81)) w.heap.size 81 xs ∧ Wr (((w.alloc (Obj.cells (wcells xs).toArray 81)).alloc (Obj.cells (wcells zs).toArray 81)).alloc (Obj.cells (wcells zs).toArray 81)) (w.heap.size + 1) 81 zs ∧ Wr (((w.alloc (Obj.cells (wcells xs).toArray 81)).alloc (Obj.cells (wcells zs).toArray 81)).alloc (Obj.cells (wcells zs).toArray 81)) (w.heap.size + 1 + 1) 81 zs ∧ Ext w (((w.alloc (Obj.cells (wcells xs).toArray 81)).alloc (Obj.cells (wcells zs).toArray 81)).alloc (Obj.cells (wcells zs).toArray 81))) := ⟨heap_alloc30 _ _ _ _, heap_alloc31 _ _ _ _, heap_alloc32 _ _ _ _, (((Ext.refl w).alloc _).alloc _).alloc _⟩
  go_enter Tryd.func49, Tryd.ntmps49
  go_upto_region 2 with (first
    | (refine wpList_build_as rfl _ _ rfl (wcells ow).toArray (by simp only [List.map_toArray, List.map_cons, List.map_nil]; first | exact hb1.out | exact hb2.out) ?_; simp only [Act.put, List.setIfInBounds_toArray, List.set_cons_zero, List.set_cons_succ])
    | (refine wpList_store_row rfl 81 _ _ rfl (w.heap.size + 1 + 1) (wcells ow).toArray rfl rfl 81 _ B0.out.2.2.1 (by rw [OS]; rfl) (by rw [OS, ZS]) O1 ?_; simp only [Act.put, List.setIfInBounds_toArray, List.set_cons_zero, List.set_cons_succ]))
  refine wp_gen (fun W => Wr W w.heap.size 81 xs ∧ Wr W (w.heap.size + 1) 81 zs ∧ Wr W (w.heap.size + 1 + 1) 81 ow ∧ Ext w W) ⟨(setRow_other _ _ _ _ (by omega)).trans B0.out.1, (setRow_other _ _ _ _ (by omega)).trans B0.out.2.1, setRow_heap _ _ _ _ _ _ B0.out.2.2.1, below_setRow B0.out.2.2.2 (by omega) _⟩ ?_
  clear B0
  rintro W0 ⟨wa, we, wc4, e0⟩
  replace wa := Lib.hid wa
  replace we := Lib.hid we
  replace wc4 := Lib.hid wc4
  replace e0 := Lib.hid e0
  go_wp2_with fail
  go_loopw [4] (fun iv wr => ∃ m : Nat, m ≤ 255 ∧ iv = .int .i64 (254 - (m : Int)) ∧ Below (w.heap.size + 1 + 1) W0 wr ∧ Wr wr (w.heap.size + 1 + 1) 81 (f m)) (fun iv _ => (intOf iv + 1).toNat)
  case atStart => exact ⟨0, Nat.zero_le _, rfl, Below.refl _ _, by rw [f0.out]; exact wc4.out⟩
  case round =>
    obtain ⟨m, hm, rfl, hB, hw⟩ := hrel
    clear wc4
    by_cases hlt : m < 255
    · obtain ⟨b, hb⟩ : ∃ b : Int, b = 254 - (m : Int) := ⟨_, rfl⟩
      rw [← hb]
      have b0 : (0 : Int) ≤ b := by omega
      have b1 : b ≤ 254 := by omega
      have bw : IntKind.i64.wrap (b - 1) = b - 1 := IntWalk.i64_in _ (by omega)
      have hbn : Hid (b - 1 = 254 - ((m + 1 : Nat) : Int)) := by unfold Hid; omega
      have hme : Hid ((b - 1 + 1).toNat < (b + 1).toNat) := by unfold Hid; omega
      have FM := FL.out m
      have GM := GL.out m
      have HM := HL.out m
      have SQm := Lib.hid (fun W e => SQ'.out W m e)
      have MXm := Lib.hid (fun W e => MX'.out W m e)
      have FS := wcells_size FM
      have GS := wcells_size GM
      have HS := wcells_size HM
      have G1 := wcells_one (g m)
      have H1 := wcells_one (h m)
      have CASE : Hid (((b = 2 ∨ b = 4) ∧ f (m + 1) = g m) ∨ ((¬ b = 2 ∧ ¬ b = 4) ∧ f (m + 1) = h m)) := by
        unfold Hid
        by_cases q : m = 252 ∨ m = 250
        · exact .inl ⟨by omega, IS'.out m q⟩
        · exact .inr ⟨by omega, IN'.out m q⟩
      generalize f m = fm at *
      generalize g m = gm at *
      generalize h m = hm' at *
      obtain ⟨fn, hfn⟩ : ∃ fn, fn = f (m + 1) := ⟨_, rfl⟩
      rw [← hfn] at CASE
      replace hfn := Lib.hid hfn
      replace hb := Lib.hid hb
      have xw : Hid (Ext w wr) := Below.trans e0.out (hB.mono (by omega))
      replace hB := Lib.hid hB
      replace hw := Lib.hid hw
      go_wp2_with (refine wpList_load_row rfl 81 _ rfl (w.heap.size + 1 + 1) rfl 81 (wcells fm).toArray (0, 0) _ hw.out rfl rfl (by rw [FS]; rfl) ?_; simp only [Act.put, List.setIfInBounds_toArray, List.set_cons_zero, List.set_cons_succ])
      refine (SQm.out _ xw.out).mono ?_
      rintro e w1 ⟨rfl, e1⟩
      have r1 := Lib.hid (hw.out.kept e1 hw.out.lt)
      have hB1 : Hid (Below (w.heap.size + 1 + 1) W0 w1) := Below.trans hB.out (e1.mono (Nat.le_of_lt hw.out.lt))
      go_upto_region 6 with (refine wpList_store_row rfl 81 _ _ rfl (w.heap.size + 1 + 1) (wcells gm).toArray rfl rfl 81 _ r1.out (by rw [GS]; rfl) (by rw [GS, FS]) G1 ?_; simp only [Act.put, List.setIfInBounds_toArray, List.set_cons_zero, List.set_cons_succ])
      refine wp_gen (fun W => Wr W (w.heap.size + 1 + 1) 81 gm ∧ Below (w.heap.size + 1 + 1) W0 W) ⟨setRow_heap _ _ _ _ _ _ r1.out, below_setRow hB1.out (Nat.le_refl _) _⟩ ?_
      clear r1 hB1 e1 hw hB xw
      rintro w2 ⟨hw, hB⟩
      have xw : Hid (Ext w w2) := Below.trans e0.out (hB.mono (by omega))
      have ka := Lib.hid (wa.out.kept hB (by omega))
      replace hB := Lib.hid hB
      replace hw := Lib.hid hw
      rcases CASE.out with ⟨hbb, rfl⟩ | ⟨⟨n2, n4⟩, rfl⟩
      · clear CASE
        rcases hbb with rfl | rfl
        · go_wp2_with fail
          refine ⟨⟨m + 1, by omega, by rw [← hbn.out]; rfl, hB.out, by rw [← hfn.out]; exact hw.out⟩, by simp [intOf]⟩
        · go_wp2_with fail
          refine ⟨⟨m + 1, by omega, by rw [← hbn.out]; rfl, hB.out, by rw [← hfn.out]; exact hw.out⟩, by simp [intOf]⟩
      · clear CASE
        have n2b : (b != 2) = true := by simpa using n2
        have n4b : (b != 4) = true := by simpa using n4
        go_wp2_with (first
          | (refine wpList_load_row rfl 81 _ rfl (w.heap.size + 1 + 1) rfl 81 (wcells gm).toArray (0, 0) _ hw.out rfl rfl (by rw [GS]; rfl) ?_; simp only [Act.put, List.setIfInBounds_toArray, List.set_cons_zero, List.set_cons_succ])
          | (refine wpList_load_row rfl 81 _ rfl w.heap.size rfl 81 (wcells xs).toArray (0, 0) _ ka.out rfl rfl (by rw [XS]; rfl) ?_; simp only [Act.put, List.setIfInBounds_toArray, List.set_cons_zero, List.set_cons_succ]))
        refine (MXm.out _ xw.out).mono ?_
        rintro e w3 ⟨rfl, e1⟩
        have r1 := Lib.hid (hw.out.kept e1 hw.out.lt)
        have hB1 : Hid (Below (w.heap.size + 1 + 1) W0 w3) := Below.trans hB.out (e1.mono (Nat.le_of_lt hw.out.lt))
        go_wp2_with (refine wpList_store_row rfl 81 _ _ rfl (w.heap.size + 1 + 1) (wcells fn).toArray rfl rfl 81 _ r1.out (by rw [HS]; rfl) (by rw [HS, GS]) H1 ?_; simp only [Act.put, List.setIfInBounds_toArray, List.set_cons_zero, List.set_cons_succ])
        refine ⟨⟨m + 1, by omega, by rw [← hbn.out], below_setRow hB1.out (Nat.le_refl _) _, by rw [← hfn.out]; exact setRow_heap _ _ _ _ _ _ r1.out⟩, by simp [intOf]; omega⟩
    · obtain rfl : m = 255 := by omega
      rw [f255.out] at hw
      have we1 := Lib.hid (we.out.kept hB (by omega))
      have EE : Hid (Ext w wr) := Below.trans e0.out (hB.mono (by omega))
      replace hw := Lib.hid hw
      clear hB e0 we wa
      go_wp2_with (first
        | (refine wpList_load_row rfl 81 _ rfl (w.heap.size + 1 + 1) rfl 81 (wcells rr).toArray (0, 0) _ hw.out rfl rfl (by rw [RS]; rfl) ?_; simp only [Act.put, List.setIfInBounds_toArray, List.set_cons_zero, List.set_cons_succ])
        | (refine wpList_store_row rfl 81 _ _ rfl (w.heap.size + 1) (wcells rr).toArray rfl rfl 81 _ we1.out (by rw [RS]; rfl) (by rw [RS, ZS]) OR ?_; simp only [Act.put, List.setIfInBounds_toArray, List.set_cons_zero, List.set_cons_succ]))
      (try simp only [Exit.inBlock, Exit.then])
      refine bodyPost_ret (results_cell_row rfl _ _ (w.heap.size + 1) 81 (wcells rr).toArray (0, 0) _ rfl (setRow_heap _ _ _ _ _ _ we1.out) rfl rfl (by rw [RS]; rfl)) rfl ?_
      exact ⟨rfl, below_setRow EE.out (by omega) _⟩
end Go.Proofs.YtfhafednnnfmbaaDoor
end

section
/-
  A number times its Inv is 1.
-/
namespace Go.Proofs.YtfhafednnnfmbaaDoor
open Go.ChangeShapes Go.WideShapes Go.ChangeAt Go.RowKit Go.Deep

/-- The exponent behind m bits. -/
def eA : Nat → Nat
  | 0 => 0
  | m + 1 => if m = 252 ∨ m = 250 then eA m + eA m else eA m + eA m + 1
theorem iA_pow (x : Nat) : ∀ m, iA x m = x ^ eA m % P25
  | 0 => by rw [iA, eA, Nat.pow_zero]; decide +kernel
  | m + 1 => by
    rw [iA, eA, iA_pow x m]
    split
    · rw [Nat.pow_add, ← Nat.mul_mod]
    · rw [Nat.pow_succ, Nat.pow_add, ← Nat.mul_mod, Nat.mod_mul_mod]
theorem eA_end : eA 255 = P25 - 2 := by decide +kernel
theorem P25_eq : P25 = 57896044618658097711785492504343953926634992332820282019728792003956564819949 := by decide +kernel
theorem rootP25 : Go.Pratt.Root P25 2 := by rw [P25_eq]; exact Go.Pratt.rootP
theorem invF_zero : invF 0 = 0 := by
  rw [invF, iA_pow, eA_end]
  rw [Nat.zero_pow (by decide +kernel)]
  exact Nat.zero_mod _
theorem mul_invF {x : Nat} (h0 : x ≠ 0) (hx : x < P25) : x * invF x % P25 = 1 := by
  rw [invF, iA_pow, eA_end, Nat.mul_mod_mod, Nat.mul_comm, ← Nat.pow_succ]
  have := rootP25.fermat (by omega) hx
  rwa [show (P25 - 2).succ = P25 - 1 by rw [P25_eq]]
theorem invF_ne {x : Nat} (h0 : x ≠ 0) (hx : x < P25) : invF x ≠ 0 := fun e => by
  have := mul_invF h0 hx
  rw [e] at this
  simp at this
theorem invF_invF {x : Nat} (hx : x < P25) : invF (invF x) = x := by
  by_cases h0 : x = 0
  · rw [h0, invF_zero, invF_zero]
  · have h1 := mul_invF h0 hx
    have h2 := mul_invF (invF_ne h0 hx) (invF_lt x)
    have l := invF_lt (invF x)
    generalize invF (invF x) = z at *
    generalize invF x = y at *
    have e : x * y * z = x * (y * z) := Nat.mul_assoc _ _ _
    have e1 : x * y * z % P25 = z := by rw [Nat.mul_mod, h1, Nat.one_mul, Nat.mod_mod, Nat.mod_eq_of_lt l]
    have e2 : x * (y * z) % P25 = x := by rw [Nat.mul_mod, h2, Nat.mul_one, Nat.mod_mod, Nat.mod_eq_of_lt hx]
    rw [e, e2] at e1
    exact e1.symm
end Go.Proofs.YtfhafednnnfmbaaDoor
end

section
/-
  The ladder on numbers, as the program reckons; it is the ladder of the field. Plain mathematics; no conditions.
-/
namespace Go.Proofs.YtfhafednnnfmbaaDoor
open Go.ChangeShapes Go.WideShapes Go.ChangeAt Go.RowKit Go.Deep
open Go.Edw (Fq Q25 stepF swapF ladF resF)

def addP (x y : Nat) : Nat := (x + y) % P25
def subP (x y : Nat) : Nat := (x + (P25 - y)) % P25
def mulP (x y : Nat) : Nat := x * y % P25
theorem addP_lt (x y : Nat) : addP x y < P25 := Nat.mod_lt _ P25_pos
theorem subP_lt (x y : Nat) : subP x y < P25 := Nat.mod_lt _ P25_pos
theorem mulP_lt (x y : Nat) : mulP x y < P25 := Nat.mod_lt _ P25_pos
abbrev StN := Nat × Nat × Nat × Nat
def stepN (x : Nat) (s : StN) : StN :=
  let e := addP s.1 s.2.2.1; let f := subP s.1 s.2.2.1; let g := addP s.2.1 s.2.2.2; let h := subP s.2.1 s.2.2.2
  let u := mulP e e; let v := mulP f f; let w := subP u v; let y := mulP h e; let z := mulP g f
  (mulP u v, mulP (addP y z) (addP y z), mulP w (addP u (mulP 121665 w)), mulP (mulP x (subP y z)) (subP y z))
def swapN (t : Bool) (s : StN) : StN := if t then (s.2.1, s.1, s.2.2.2, s.2.2.1) else s
def ladN (x : Nat) (bits : Nat → Bool) : Nat → StN
  | 0 => (1, x, 0, 1)
  | m + 1 => swapN (bits m) (stepN x (swapN (bits m) (ladN x bits m)))
/-- A secret's bit. -/
def bitB (ks : List UInt8) (i : Nat) : Bool := if i < 3 ∨ i = 255 then false else if i = 254 then true else decide (bt ks (i / 8) / 2 ^ (i % 8) % 2 = 1)
def multN (ks : List UInt8) (x : Nat) : Nat := mulP (ladN x (fun m => bitB ks (254 - m)) 255).1 (invF (ladN x (fun m => bitB ks (254 - m)) 255).2.2.1)
theorem multN_lt (ks : List UInt8) (x : Nat) : multN ks x < P25 := mulP_lt _ _

/-- .. all four below p. -/
def LtS (s : StN) : Prop := s.1 < P25 ∧ s.2.1 < P25 ∧ s.2.2.1 < P25 ∧ s.2.2.2 < P25
theorem swapN_lt {t : Bool} {s : StN} (h : LtS s) : LtS (swapN t s) := by
  cases t
  · exact h
  · exact ⟨h.2.1, h.1, h.2.2.2, h.2.2.1⟩
theorem stepN_lt (x : Nat) (s : StN) : LtS (stepN x s) := ⟨mulP_lt _ _, mulP_lt _ _, mulP_lt _ _, mulP_lt _ _⟩
theorem ladN_lt {x : Nat} (hx : x < P25) (bits : Nat → Bool) : ∀ m, LtS (ladN x bits m)
  | 0 => ⟨by show 1 < P25; decide +kernel, hx, P25_pos, by show 1 < P25; decide +kernel⟩
  | _ + 1 => swapN_lt (stepN_lt _ _)

theorem q25_eq : Q25 = P25 := P25_eq.symm
def toF (n : Nat) : Fq := ⟨n % Q25, Nat.mod_lt _ (by decide)⟩
theorem toF_val (n : Nat) : (toF n).val = n % P25 := by show n % Q25 = _; rw [q25_eq]
theorem toF_inj {x y : Nat} (hx : x < P25) (hy : y < P25) (h : toF x = toF y) : x = y := by
  have := congrArg Fin.val h
  rwa [toF_val, toF_val, Nat.mod_eq_of_lt hx, Nat.mod_eq_of_lt hy] at this
theorem toF_add (x y : Nat) : toF (addP x y) = toF x + toF y := Fin.ext (by
  rw [Fin.val_add, toF_val, toF_val, toF_val, addP, Nat.mod_mod, q25_eq, ← Nat.add_mod])
theorem toF_mul (x y : Nat) : toF (mulP x y) = toF x * toF y := Fin.ext (by
  rw [Fin.val_mul, toF_val, toF_val, toF_val, mulP, Nat.mod_mod, q25_eq, ← Nat.mul_mod])
theorem toF_sub (x : Nat) {y : Nat} (hy : y < P25) : toF (subP x y) = toF x - toF y := Fin.ext (by
  rw [Fin.sub_def]
  show (toF (subP x y)).val = (Q25 - (toF y).val + (toF x).val) % Q25
  rw [toF_val, toF_val, toF_val, subP, Nat.mod_mod, q25_eq, Nat.mod_eq_of_lt hy, Nat.add_mod_mod, Nat.add_comm])
theorem toF_inv {c : Nat} (hc : c < P25) : toF (invF c) = Go.Edw.fi (toF c) := by
  by_cases h : c = 0
  · subst h
    rw [invF_zero]
    have : toF 0 = 0 := rfl
    rw [this, Go.Edw.fi_zero]
  · refine (Go.Edw.fi_uniq ?_).symm
    rw [← toF_mul]
    have : mulP c (invF c) = 1 := mul_invF h hc
    rw [this]
    decide +kernel
def toS (s : StN) : Fq × Fq × Fq × Fq := (toF s.1, toF s.2.1, toF s.2.2.1, toF s.2.2.2)
theorem toS_swap (t : Bool) (s : StN) : toS (swapN t s) = swapF t (toS s) := by cases t <;> rfl
theorem toS_step {x : Nat} {s : StN} (h : LtS s) : toS (stepN x s) = stepF 121665 (toF x) (toS s) := by
  obtain ⟨a, b, c, d⟩ := s
  obtain ⟨h1, h2, h3, h4⟩ := h
  have k : toF 121665 = 121665 := by decide +kernel
  simp only [toS, stepN, stepF, toF_mul, toF_add, toF_sub _ h3, toF_sub _ h4, toF_sub _ (mulP_lt _ _), k]
theorem toS_lad {x : Nat} (hx : x < P25) (bits : Nat → Bool) : ∀ m, toS (ladN x bits m) = ladF 121665 (toF x) bits m
  | 0 => by
    show ((toF 1, toF x, toF 0, toF 1) : Fq × Fq × Fq × Fq) = (1, toF x, 0, 1)
    rw [show toF 1 = 1 by decide +kernel, show toF 0 = 0 from rfl]
  | m + 1 => by
    show toS (swapN (bits m) (stepN x (swapN (bits m) (ladN x bits m)))) = swapF (bits m) (stepF 121665 (toF x) (swapF (bits m) (ladF 121665 (toF x) bits m)))
    rw [toS_swap, toS_step (swapN_lt (ladN_lt hx bits m)), toS_swap, toS_lad hx bits m]
theorem toF_mult (ks : List UInt8) {x : Nat} (hx : x < P25) : toF (multN ks x) = resF 121665 (toF x) (fun m => bitB ks (254 - m)) := by
  have h := toS_lad hx (fun m => bitB ks (254 - m)) 255
  have hl := ladN_lt hx (fun m => bitB ks (254 - m)) 255
  unfold multN resF
  rw [← h, toF_mul, toF_inv hl.2.2.1]
  rfl
/-- Two secrets, one behind the other: in whichever order. -/
theorem mult_comm (ks ls : List UInt8) {x : Nat} (hx : x < P25) : multN ls (multN ks x) = multN ks (multN ls x) := by
  refine toF_inj (multN_lt _ _) (multN_lt _ _) ?_
  rw [toF_mult _ (multN_lt _ _), toF_mult _ hx, toF_mult _ (multN_lt _ _), toF_mult _ hx]
  exact Go.Edw.res_comm _ rfl rfl rfl rfl
theorem mult_zero (ks : List UInt8) : multN ks 0 = 0 := by
  refine toF_inj (multN_lt _ _) P25_pos ?_
  rw [toF_mult _ P25_pos]
  exact Go.Edw.res_zero rfl
end Go.Proofs.YtfhafednnnfmbaaDoor
end

section
/-
  Words are copied.
-/
namespace Go.Proofs.YtfhafednnnfmbaaDoor
open Go.ChangeShapes Go.WideShapes Go.ChangeAt Go.RowKit Go.Deep
set_option maxRecDepth 100000

theorem wcells_len (vs : List Nat) : (wcells vs).length = vs.length := by simp [wcells]
theorem wcells_get {vs : List Nat} {j : Nat} (h : j < vs.length) : (wcells vs)[j]? = some (.int .u32 (wd vs j : Int)) := by simp [wcells, wd, List.getD, h]
theorem wcells_splice (xs ys : List Nat) (o : Nat) : splice (wcells xs) o (wcells ys) = wcells (splice xs o ys) := by simp [wcells, splice]

/-- All words of block b are copied into block g. -/
theorem upon_copyW {o : Oper} {a : Act} {K : Act → World → Prop} {Q : Exit → Act → World → Prop} {W : World} {b g off dLen dCap : Nat} {us vs : List Nat} {t t' dT sT ty : TypeId} {n c : Nat} (hu : Tryd.prog.underlying dT = some (.slice 76)) (hg : Wr W g t us) (hb : Wr W b t' vs) (hn : vs.length = n) (hd : n ≤ dLen) (hfit : off + n ≤ us.length)
    (H : ∀ W', Hid (Wr W' g t (splice us off vs)) → Hid (∀ B, B ≤ g → Below B W W') → Oper.upon Tryd.prog o a K Q (.ok (Next.value (goInt n)) W')) :
    Oper.upon Tryd.prog o a K Q (((Builtin.copy_ #[dT, sT] ty #[.slice (some ⟨g, off, none⟩) dLen dCap, .slice (some ⟨b, 0, none⟩) n c]).run Tryd.prog W).andThen fun a w' => .ok (Next.value a) w') := by
  have hsz : (Tryd.prog.info? 76).map (·.size) = some 1 := rfl
  have hr := run_copy_row Tryd.prog W dT sT ty _ g off dLen dCap ⟨b, 0, none⟩ n c (wcells us).toArray t (wcells vs) hu hsz hg (by rw [wcells_len, hn]; exact (Nat.min_eq_left hd).symm) (fun j v hv => by
    have hj : j < vs.length := by
      rcases Nat.lt_or_ge j vs.length with q | q
      · exact q
      · rw [List.getElem?_eq_none (by rw [wcells_len]; exact q)] at hv; cases hv
    rw [wcells_get hj] at hv
    injection hv with hv
    subst hv
    have : (⟨b, 0, none⟩ : Addr).add j = ⟨b, j, none⟩ := by unfold Addr.add; split <;> simp_all
    rw [this]
    exact hb.cell hj) (by rw [wcells_len]; simp [wcells]; omega) (fun v hv => by
    obtain ⟨j, _, rfl⟩ := List.mem_map.1 hv
    rfl)
  rw [wcells_len, hn] at hr
  rw [hr]
  refine H _ ?_ (fun B hB => below_setRow (Below.refl _ _) hB _)
  have := setRow_heap W g _ (((wcells us).take off ++ wcells vs ++ (wcells us).drop (off + n)).toArray) t _ hg
  show _ = _
  rw [← wcells_splice]
  simpa [splice, wcells_len, hn, List.append_assoc] using this
end Go.Proofs.YtfhafednnnfmbaaDoor
end

section
/-
  octets.Low and OfLow alone (for seats that have no High).
-/
namespace Go.Proofs.YtfhafednnnfmbaaDoor
open Go.ChangeShapes Go.WideShapes Go.ChangeAt Go.RowKit Go.Deep

def lowL (n m : Nat) : List UInt8 := (List.range m).map fun i => UInt8.ofNat (n / 256 ^ i)
theorem lowL_len (n m : Nat) : (lowL n m).length = m := by simp [lowL]
theorem bt_lowL {n m k : Nat} (hk : k < m) : bt (lowL n m) k = n / 256 ^ k % 256 := by
  unfold bt lowL
  simp [List.getD, hk]

/-- What is left of the number when k bytes are told. -/
def lowAt (n k : Nat) : Nat := n / 256 ^ k
theorem lowAt_succ (n k : Nat) : lowAt n k / 256 = lowAt n (k + 1) := by unfold lowAt; rw [Nat.div_div_eq_div_mul, Nat.pow_succ]
theorem lowAt_le (n k : Nat) : lowAt n k ≤ n := Nat.div_le_self _ _

theorem lowAt_int (n k : Nat) : (lowAt n k : Int) / 256 = (lowAt n (k + 1) : Int) := by rw [← lowAt_succ]; omega
theorem lowAt_byte (n k : Nat) : (lowAt n k : Int) % 256 = ((n / 256 ^ k % 256 : Nat) : Int) := by
  show (lowAt n k : Int) % 256 = ((lowAt n k % 256 : Nat) : Int)
  omega

set_option maxHeartbeats 400000 in
theorem low_calls {n m : Nat} {many : Int} {w : World} (hn : n < 18446744073709551616) (h1 : 0 ≤ many) (h2 : many ≤ 9223372036854775807) (hm8 : m ≤ 8) (hM : (if (8 : Int) < many then 8 else many) = (m : Int)) :
    Calls Tryd.prog 55 #[.int .u64 (n : Int), .int .i64 many] w (RetBs (lowL n m) w) := by
  have hmk := make8 m (by omega)
  have hz : lowAt n 0 = n := by simp [lowAt]
  go_enter Tryd.func55, Tryd.ntmps55
  go_wp2
  clear hmk hM
  go_loopw [0, 13] (fun x i wr => ∃ k : Nat, k ≤ m ∧ i = .int .i64 k ∧ x = .int .u64 (lowAt n k : Int) ∧ Fill w wr m k (fun j => n / 256 ^ j % 256)) (fun _ i _ => m - (intOf i).toNat)
  case atStart => exact ⟨0, Nat.zero_le _, rfl, by rw [hz], Fill.start _ _ _⟩
  case round =>
    obtain ⟨k, hk, rfl, rfl, hf⟩ := hrel
    clear hz
    by_cases hlt : k < m
    · have g3 := hf.cell hlt
      have g4 := hf.frozen k
      have hle := Nat.lt_of_le_of_lt (lowAt_le n k) hn
      go_wp2
      go_roundw
      case rel =>
        exact ⟨k + 1, by omega, by go_num, congrArg (Value.int .u64) (lowAt_int n k), hf.step (lowAt_byte n k)⟩
      case measure => simp [intOf]; omega
    · obtain rfl : k = m := by omega
      go_wp2
      go_ret
      exact ⟨_, _, _, rfl, hf.done (lowL_len n k) (by omega) (fun j hj => (bt_lowL hj).symm), hf.1⟩

/-- The number of bytes, the lowest first. -/
def ofLowL : List UInt8 → Nat
  | [] => 0
  | x :: xs => x.toNat + 256 * ofLowL xs
theorem ofLowL_lt : ∀ xs : List UInt8, ofLowL xs < 256 ^ xs.length
  | [] => by simp [ofLowL]
  | x :: xs => by
    have h := ofLowL_lt xs
    have hx : x.toNat < 256 := x.toNat_lt
    simp only [ofLowL, List.length_cons, Nat.pow_succ]
    omega
theorem ofLowL_append : ∀ (xs : List UInt8) (y : UInt8), ofLowL (xs ++ [y]) = ofLowL xs + 256 ^ xs.length * y.toNat
  | [], y => by simp [ofLowL]
  | x :: xs, y => by
    rw [List.cons_append, ofLowL, ofLowL_append xs y, ofLowL, List.length_cons, Nat.pow_succ, Nat.mul_add, Nat.mul_comm (256 ^ xs.length) 256, Nat.mul_assoc, Nat.add_assoc]
/-- The number of the first k bytes. -/
def ofLowAt (xs : List UInt8) (k : Nat) : Nat := ofLowL (xs.take k)
theorem ofLowAt_succ {xs : List UInt8} {k : Nat} (h : k < xs.length) : ofLowAt xs (k + 1) = ofLowAt xs k + 256 ^ k * bt xs k := by
  unfold ofLowAt
  rw [List.take_succ_eq_append_getElem h, ofLowL_append, List.length_take, Nat.min_eq_left (by omega)]
  simp [bt, List.getD, h]
theorem ofLowAt_lt {xs : List UInt8} {k : Nat} (h : k ≤ xs.length) : ofLowAt xs k < 256 ^ k := by
  have := ofLowL_lt (xs.take k)
  rwa [List.length_take, Nat.min_eq_left h] at this

theorem ofLow_bits {xs : List UInt8} {k : Nat} (h : k < xs.length) (hk : k < 8) :
    bits .or .u64 (ofLowAt xs k : Int) (IntKind.u64.wrap ((bt xs k : Int) * 2 ^ (8 * k))) = (ofLowAt xs (k + 1) : Int) := by
  have h1 := ofLowAt_lt (xs := xs) (k := k) (by omega)
  have hb := bt_lt xs k
  have hp : (256 : Nat) ^ k = 2 ^ (8 * k) := by rw [Nat.pow_mul]
  have hpk : (2 : Nat) ^ (8 * k) ≤ 2 ^ 56 := Nat.pow_le_pow_right (by omega) (by omega)
  have hlt : bt xs k * 2 ^ (8 * k) < 18446744073709551616 := by
    have : bt xs k * 2 ^ (8 * k) ≤ 255 * 2 ^ 56 := Nat.mul_le_mul (by omega) hpk
    omega
  have hc : ((bt xs k : Int) * 2 ^ (8 * k)) = ((bt xs k * 2 ^ (8 * k) : Nat) : Int) := by push_cast; rfl
  rw [hc, IntWalk.u64_in _ (by omega), ofLowAt_succ h, hp]
  rw [hp] at h1
  generalize ofLowAt xs k = y at *
  have hy : y < 18446744073709551616 := by omega
  rw [u64_or_nat _ _ hy hlt, Nat.or_comm, nat_join (8 * k) _ _ (Nat.mul_mod_left _ _) h1, Nat.mul_comm, Nat.add_comm]

set_option maxHeartbeats 400000 in
theorem ofLow_calls {A : Option Addr} {n c : Nat} {m : Nat} {xs : List UInt8} {w : World} (h : Bs w A n c xs) (hm8 : m ≤ 8) (hmn : m ≤ n) (hM : (if (8 : Int) < (n : Int) then 8 else (n : Int)) = (m : Int)) :
    Calls Tryd.prog 75 #[.slice A n c] w fun e w' => e = .returned (.int .u64 (ofLowL (xs.take m) : Int)) ∧ w' = w := by
  have h1 := h.le
  have h2 := h.cap
  go_enter Tryd.func75, Tryd.ntmps75
  go_wp2
  clear hM
  go_loop [3, 8] (fun x i => ∃ k : Nat, k ≤ m ∧ i = .int .i64 k ∧ x = .int .u64 (ofLowAt xs k : Int)) (fun _ i => m - (intOf i).toNat)
  case atStart => exact ⟨0, Nat.zero_le _, rfl, rfl⟩
  case round =>
    obtain ⟨k, hk, rfl, rfl⟩ := hrel
    by_cases hlt : k < m
    · obtain ⟨b, off, rfl, hb, hc⟩ := h.pos (by omega)
      have g1 := hc k (by omega)
      have hbt := bt_lt xs k
      clear hc
      go_wp2
      go_round
      case rel =>
        exact ⟨k + 1, by omega, by go_num, congrArg (Value.int .u64) (ofLow_bits (by rw [h.len]; omega) (by omega))⟩
      case measure => simp [intOf]; omega
    · obtain rfl : k = m := by omega
      go_wp2
      go_ret
      exact ⟨rfl, rfl⟩
end Go.Proofs.YtfhafednnnfmbaaDoor
end

section
/-
  bits.RotateLeft32 by -16, -12, -8, -7.
-/
namespace Go.Proofs.YtfhafednnnfmbaaDoor
open Go.ChangeShapes Go.WideShapes Go.ChangeAt Go.RowKit Go.Deep

theorem rotr_int {n x : Nat} (hn : n ≤ 32) (hx : x < 4294967296) : bits .or .u32 ((x : Int) * 2 ^ (32 - n) % 4294967296) ((x : Int) / 2 ^ n) = (rotr n x : Int) := by
  have h1 : (x : Int) * 2 ^ (32 - n) % 4294967296 = ((x * 2 ^ (32 - n) % 4294967296 : Nat) : Int) := by simp
  have h2 : (x : Int) / 2 ^ n = ((x / 2 ^ n : Nat) : Int) := by simp
  rw [h1, h2, u32_or_nat _ _ (Nat.mod_lt _ (by omega)) (Nat.lt_of_le_of_lt (Nat.div_le_self _ _) hx)]
  rfl

set_option maxHeartbeats 1000000 in
theorem rot_calls {n x : Nat} {k : Int} {w : World} (hx : x < 4294967296) (hk : bits .and .u64 (IntKind.u64.wrap k) 31 = ((32 - n : Nat) : Int)) (h1 : 1 ≤ n) (h2 : n ≤ 31) :
    Calls Tryd.prog 76 #[.int .u32 (x : Int), .int .i64 k] w fun e w' => e = .returned (.int .u32 (rotr n x : Int)) ∧ w' = w := by
  have hs : ∃ s : Nat, 32 - n = s ∧ s ≤ 31 ∧ n = 32 - s := ⟨32 - n, rfl, by omega, by omega⟩
  obtain ⟨s, e1, e2, e3⟩ := hs
  have hf := Lib.hid (rotr_int (n := n) (by omega) hx)
  rw [e1] at hk hf
  have hd : IntKind.u64.wrap (32 - (s : Int)) = (n : Int) := by rw [IntWalk.u64_in _ (by omega)]; omega
  go_enter Tryd.func76, Tryd.ntmps76
  go_wp2_with fail
  go_ret
  refine ⟨congrArg (fun v => Ending.returned (Value.int .u32 v)) (Eq.trans ?_ hf.out), rfl⟩
  rw [e3]
theorem rot16 {x : Nat} {w : World} (hx : x < 4294967296) :
    Calls Tryd.prog 76 #[.int .u32 (x : Int), .int .i64 (-16)] w fun e w' => e = .returned (.int .u32 (rotr 16 x : Int)) ∧ w' = w := rot_calls hx (by decide) (by omega) (by omega)
theorem rot12 {x : Nat} {w : World} (hx : x < 4294967296) :
    Calls Tryd.prog 76 #[.int .u32 (x : Int), .int .i64 (-12)] w fun e w' => e = .returned (.int .u32 (rotr 12 x : Int)) ∧ w' = w := rot_calls hx (by decide) (by omega) (by omega)
theorem rot8 {x : Nat} {w : World} (hx : x < 4294967296) :
    Calls Tryd.prog 76 #[.int .u32 (x : Int), .int .i64 (-8)] w fun e w' => e = .returned (.int .u32 (rotr 8 x : Int)) ∧ w' = w := rot_calls hx (by decide) (by omega) (by omega)
theorem rot7 {x : Nat} {w : World} (hx : x < 4294967296) :
    Calls Tryd.prog 76 #[.int .u32 (x : Int), .int .i64 (-7)] w fun e w' => e = .returned (.int .u32 (rotr 7 x : Int)) ∧ w' = w := rot_calls hx (by decide) (by omega) (by omega)
theorem rotl16 {x : Nat} {w : World} (hx : x < 4294967296) :
    Calls Tryd.prog 76 #[.int .u32 (x : Int), .int .i64 16] w fun e w' => e = .returned (.int .u32 (rotr 16 x : Int)) ∧ w' = w := rot_calls hx (by decide) (by omega) (by omega)
theorem rotl12 {x : Nat} {w : World} (hx : x < 4294967296) :
    Calls Tryd.prog 76 #[.int .u32 (x : Int), .int .i64 12] w fun e w' => e = .returned (.int .u32 (rotr 20 x : Int)) ∧ w' = w := rot_calls hx (by decide) (by omega) (by omega)
theorem rotl8 {x : Nat} {w : World} (hx : x < 4294967296) :
    Calls Tryd.prog 76 #[.int .u32 (x : Int), .int .i64 8] w fun e w' => e = .returned (.int .u32 (rotr 24 x : Int)) ∧ w' = w := rot_calls hx (by decide) (by omega) (by omega)
theorem rotl7 {x : Nat} {w : World} (hx : x < 4294967296) :
    Calls Tryd.prog 76 #[.int .u32 (x : Int), .int .i64 7] w fun e w' => e = .returned (.int .u32 (rotr 25 x : Int)) ∧ w' = w := rot_calls hx (by decide) (by omega) (by omega)
end Go.Proofs.YtfhafednnnfmbaaDoor
end
