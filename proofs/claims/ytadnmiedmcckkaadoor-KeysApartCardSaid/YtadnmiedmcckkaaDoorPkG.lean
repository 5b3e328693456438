import Derived.Test.YtadnmiedmcckkaaDoorPratt
import Derived.Test.YtadnmiedmcckkaaDoorFldInv
import Derived.Test.YtadnmiedmcckkaaDoorTwi
import Derived.Test.YtadnmiedmcckkaaDoorPair
import Derived.Test.YtadnmiedmcckkaaDoorPkN
section
/-
  A number times its Inv is 1.
-/
namespace Go.Proofs.YtadnmiedmcckkaaDoor
open Go.ChangeShapes Go.WideShapes Go.ChangeAt Go.RowKit Go.Deep

/-- The exponent behind m bits. -/
def eA : Nat → Nat
  | 0 => 0
  | m + 1 => if m = 252 ∨ m = 250 then eA m + eA m else eA m + eA m + 1
theorem iA_pow (x : Nat) : ∀ m, iA x m = x ^ eA m % P25
  | 0 => by rw [iA, eA, Nat.pow_zero]; decide +kernel
  | m + 1 => by
    rw [iA, eA, iA_pow x m]
    split
    · rw [Nat.pow_add, ← Nat.mul_mod]
    · rw [Nat.pow_succ, Nat.pow_add, ← Nat.mul_mod, Nat.mod_mul_mod]
theorem eA_end : eA 255 = P25 - 2 := by decide +kernel
theorem P25_eq : P25 = 57896044618658097711785492504343953926634992332820282019728792003956564819949 := by decide +kernel
theorem rootP25 : Go.Pratt.Root P25 2 := by rw [P25_eq]; exact Go.Pratt.rootP
theorem invF_zero : invF 0 = 0 := by
  rw [invF, iA_pow, eA_end]
  rw [Nat.zero_pow (by decide +kernel)]
  exact Nat.zero_mod _
theorem mul_invF {x : Nat} (h0 : x ≠ 0) (hx : x < P25) : x * invF x % P25 = 1 := by
  rw [invF, iA_pow, eA_end, Nat.mul_mod_mod, Nat.mul_comm, ← Nat.pow_succ]
  have := rootP25.fermat (by omega) hx
  rwa [show (P25 - 2).succ = P25 - 1 by rw [P25_eq]]
theorem invF_ne {x : Nat} (h0 : x ≠ 0) (hx : x < P25) : invF x ≠ 0 := fun e => by
  have := mul_invF h0 hx
  rw [e] at this
  simp at this
theorem invF_invF {x : Nat} (hx : x < P25) : invF (invF x) = x := by
  by_cases h0 : x = 0
  · rw [h0, invF_zero, invF_zero]
  · have h1 := mul_invF h0 hx
    have h2 := mul_invF (invF_ne h0 hx) (invF_lt x)
    have l := invF_lt (invF x)
    generalize invF (invF x) = z at *
    generalize invF x = y at *
    have e : x * y * z = x * (y * z) := Nat.mul_assoc _ _ _
    have e1 : x * y * z % P25 = z := by rw [Nat.mul_mod, h1, Nat.one_mul, Nat.mod_mod, Nat.mod_eq_of_lt l]
    have e2 : x * (y * z) % P25 = x := by rw [Nat.mul_mod, h2, Nat.mul_one, Nat.mod_mod, Nat.mod_eq_of_lt hx]
    rw [e, e2] at e1
    exact e1.symm
end Go.Proofs.YtadnmiedmcckkaaDoor
end

section
/-
  The ladder on numbers, as the program reckons; it is the ladder of the field. Plain mathematics; no conditions.
-/
namespace Go.Proofs.YtadnmiedmcckkaaDoor
open Go.ChangeShapes Go.WideShapes Go.ChangeAt Go.RowKit Go.Deep
open Go.Edw (Fq Q25 stepF swapF ladF resF)

def addP (x y : Nat) : Nat := (x + y) % P25
def subP (x y : Nat) : Nat := (x + (P25 - y)) % P25
def mulP (x y : Nat) : Nat := x * y % P25
theorem addP_lt (x y : Nat) : addP x y < P25 := Nat.mod_lt _ P25_pos
theorem subP_lt (x y : Nat) : subP x y < P25 := Nat.mod_lt _ P25_pos
theorem mulP_lt (x y : Nat) : mulP x y < P25 := Nat.mod_lt _ P25_pos
abbrev StN := Nat × Nat × Nat × Nat
def stepN (x : Nat) (s : StN) : StN :=
  let e := addP s.1 s.2.2.1; let f := subP s.1 s.2.2.1; let g := addP s.2.1 s.2.2.2; let h := subP s.2.1 s.2.2.2
  let u := mulP e e; let v := mulP f f; let w := subP u v; let y := mulP h e; let z := mulP g f
  (mulP u v, mulP (addP y z) (addP y z), mulP w (addP u (mulP 121665 w)), mulP (mulP x (subP y z)) (subP y z))
def swapN (t : Bool) (s : StN) : StN := if t then (s.2.1, s.1, s.2.2.2, s.2.2.1) else s
def ladN (x : Nat) (bits : Nat → Bool) : Nat → StN
  | 0 => (1, x, 0, 1)
  | m + 1 => swapN (bits m) (stepN x (swapN (bits m) (ladN x bits m)))
/-- A secret's bit. -/
def bitB (ks : List UInt8) (i : Nat) : Bool := if i < 3 ∨ i = 255 then false else if i = 254 then true else decide (bt ks (i / 8) / 2 ^ (i % 8) % 2 = 1)
def multN (ks : List UInt8) (x : Nat) : Nat := mulP (ladN x (fun m => bitB ks (254 - m)) 255).1 (invF (ladN x (fun m => bitB ks (254 - m)) 255).2.2.1)
theorem multN_lt (ks : List UInt8) (x : Nat) : multN ks x < P25 := mulP_lt _ _

/-- .. all four below p. -/
def LtS (s : StN) : Prop := s.1 < P25 ∧ s.2.1 < P25 ∧ s.2.2.1 < P25 ∧ s.2.2.2 < P25
theorem swapN_lt {t : Bool} {s : StN} (h : LtS s) : LtS (swapN t s) := by
  cases t
  · exact h
  · exact ⟨h.2.1, h.1, h.2.2.2, h.2.2.1⟩
theorem stepN_lt (x : Nat) (s : StN) : LtS (stepN x s) := ⟨mulP_lt _ _, mulP_lt _ _, mulP_lt _ _, mulP_lt _ _⟩
theorem ladN_lt {x : Nat} (hx : x < P25) (bits : Nat → Bool) : ∀ m, LtS (ladN x bits m)
  | 0 => ⟨by show 1 < P25; decide +kernel, hx, P25_pos, by show 1 < P25; decide +kernel⟩
  | _ + 1 => swapN_lt (stepN_lt _ _)

theorem q25_eq : Q25 = P25 := P25_eq.symm
def toF (n : Nat) : Fq := ⟨n % Q25, Nat.mod_lt _ (by decide)⟩
theorem toF_val (n : Nat) : (toF n).val = n % P25 := by show n % Q25 = _; rw [q25_eq]
theorem toF_inj {x y : Nat} (hx : x < P25) (hy : y < P25) (h : toF x = toF y) : x = y := by
  have := congrArg Fin.val h
  rwa [toF_val, toF_val, Nat.mod_eq_of_lt hx, Nat.mod_eq_of_lt hy] at this
theorem toF_add (x y : Nat) : toF (addP x y) = toF x + toF y := Fin.ext (by
  rw [Fin.val_add, toF_val, toF_val, toF_val, addP, Nat.mod_mod, q25_eq, ← Nat.add_mod])
theorem toF_mul (x y : Nat) : toF (mulP x y) = toF x * toF y := Fin.ext (by
  rw [Fin.val_mul, toF_val, toF_val, toF_val, mulP, Nat.mod_mod, q25_eq, ← Nat.mul_mod])
theorem toF_sub (x : Nat) {y : Nat} (hy : y < P25) : toF (subP x y) = toF x - toF y := Fin.ext (by
  rw [Fin.sub_def]
  show (toF (subP x y)).val = (Q25 - (toF y).val + (toF x).val) % Q25
  rw [toF_val, toF_val, toF_val, subP, Nat.mod_mod, q25_eq, Nat.mod_eq_of_lt hy, Nat.add_mod_mod, Nat.add_comm])
theorem toF_inv {c : Nat} (hc : c < P25) : toF (invF c) = Go.Edw.fi (toF c) := by
  by_cases h : c = 0
  · subst h
    rw [invF_zero]
    have : toF 0 = 0 := rfl
    rw [this, Go.Edw.fi_zero]
  · refine (Go.Edw.fi_uniq ?_).symm
    rw [← toF_mul]
    have : mulP c (invF c) = 1 := mul_invF h hc
    rw [this]
    decide +kernel
def toS (s : StN) : Fq × Fq × Fq × Fq := (toF s.1, toF s.2.1, toF s.2.2.1, toF s.2.2.2)
theorem toS_swap (t : Bool) (s : StN) : toS (swapN t s) = swapF t (toS s) := by cases t <;> rfl
theorem toS_step {x : Nat} {s : StN} (h : LtS s) : toS (stepN x s) = stepF 121665 (toF x) (toS s) := by
  obtain ⟨a, b, c, d⟩ := s
  obtain ⟨h1, h2, h3, h4⟩ := h
  have k : toF 121665 = 121665 := by decide +kernel
  simp only [toS, stepN, stepF, toF_mul, toF_add, toF_sub _ h3, toF_sub _ h4, toF_sub _ (mulP_lt _ _), k]
theorem toS_lad {x : Nat} (hx : x < P25) (bits : Nat → Bool) : ∀ m, toS (ladN x bits m) = ladF 121665 (toF x) bits m
  | 0 => by
    show ((toF 1, toF x, toF 0, toF 1) : Fq × Fq × Fq × Fq) = (1, toF x, 0, 1)
    rw [show toF 1 = 1 by decide +kernel, show toF 0 = 0 from rfl]
  | m + 1 => by
    show toS (swapN (bits m) (stepN x (swapN (bits m) (ladN x bits m)))) = swapF (bits m) (stepF 121665 (toF x) (swapF (bits m) (ladF 121665 (toF x) bits m)))
    rw [toS_swap, toS_step (swapN_lt (ladN_lt hx bits m)), toS_swap, toS_lad hx bits m]
theorem toF_mult (ks : List UInt8) {x : Nat} (hx : x < P25) : toF (multN ks x) = resF 121665 (toF x) (fun m => bitB ks (254 - m)) := by
  have h := toS_lad hx (fun m => bitB ks (254 - m)) 255
  have hl := ladN_lt hx (fun m => bitB ks (254 - m)) 255
  unfold multN resF
  rw [← h, toF_mul, toF_inv hl.2.2.1]
  rfl
/-- Two secrets, one behind the other: in whichever order. -/
theorem mult_comm (ks ls : List UInt8) {x : Nat} (hx : x < P25) : multN ls (multN ks x) = multN ks (multN ls x) := by
  refine toF_inj (multN_lt _ _) (multN_lt _ _) ?_
  rw [toF_mult _ (multN_lt _ _), toF_mult _ hx, toF_mult _ (multN_lt _ _), toF_mult _ hx]
  exact Go.Edw.res_comm _ rfl rfl rfl rfl
theorem mult_zero (ks : List UInt8) : multN ks 0 = 0 := by
  refine toF_inj (multN_lt _ _) P25_pos ?_
  rw [toF_mult _ P25_pos]
  exact Go.Edw.res_zero rfl
end Go.Proofs.YtadnmiedmcckkaaDoor
end

section
/-
  curve.one, curve.curveFactor.
-/
namespace Go.Proofs.YtadnmiedmcckkaaDoor
open Go.ChangeShapes Go.WideShapes Go.ChangeAt Go.RowKit Go.Deep
set_option maxRecDepth 100000

def keyF : List UInt8 := [65, 219, 1] ++ List.replicate 29 0
def keyO : List UInt8 := [1] ++ List.replicate 31 0
def key9 : List UInt8 := [9] ++ List.replicate 31 0
theorem builtF : Tryd.prog.built 23 [(0, .int .u8 65), (1, .int .u8 219), (2, .int .u8 1)] = some (cellsOf keyF).toArray := by kernel_rfl
theorem builtO : Tryd.prog.built 23 [(0, .int .u8 1)] = some (cellsOf keyO).toArray := by kernel_rfl
theorem built9 : Tryd.prog.built 23 [(0, .int .u8 9)] = some (cellsOf key9).toArray := by kernel_rfl
theorem ofVF : ofV keyF = 121665 := by decide +kernel
theorem ofVO : ofV keyO = 1 := by decide +kernel
theorem ofV9 : ofV key9 = 9 := by decide +kernel

set_option maxHeartbeats 1000000 in
theorem one_calls {w : World} {tg : TypeId × Nat × Nat} (hG : Gp w tg) : Calls Tryd.prog 32 #[] w fun e w' => e = .returned (eV 1) ∧ Ext w w' := by
  have OF : Hid (∀ W, Ext w W → Calls Tryd.prog 30 #[.agg (cellsOf keyO).toArray] W fun e w' => e = .returned (eV 1) ∧ Ext W w') := fun W e => by
    have := of_calls (ks := keyO) rfl (hG.ext e)
    rwa [ofVO] at this
  clear hG
  unfold eV at *
  have RL := lbs_len 8 1
  generalize lbs 8 1 = rr at *
  have RS := wcells_size RL
  have OR := wcells_one rr
  have hal2 := elem_alloc
  have ZL : zw8.length = 8 := rfl
  generalize zw8 = zs at *
  have ZS := wcells_size ZL
  have hb := Lib.hid builtO
  generalize keyO = ks at *
  have B0 : Hid (Wr (w.alloc (Obj.cells (wcells zs).toArray 57)) w.heap.size 57 zs) := Wr.new _ _ _
  go_enter Tryd.func32, Tryd.ntmps32
  go_wp2_with (refine wpList_build_as rfl _ _ rfl (cellsOf ks).toArray (by simp only [List.map_toArray, List.map_cons, List.map_nil]; exact hb.out) ?_; simp only [Act.put, List.setIfInBounds_toArray, List.set_cons_zero, List.set_cons_succ])
  refine (OF.out _ ((Ext.refl w).alloc _)).mono ?_
  rintro e w1 ⟨rfl, e1⟩
  have kr := Lib.hid (B0.out.kept e1 B0.out.lt)
  have kx : Hid (Ext w w1) := ((Ext.refl w).alloc _).trans e1
  clear B0 OF e1
  go_wp2_with (refine wpList_store_row rfl 57 _ _ rfl w.heap.size (wcells rr).toArray rfl rfl 57 _ kr.out (by rw [RS]; rfl) (by rw [RS, ZS]) OR ?_; simp only [Act.put, List.setIfInBounds_toArray, List.set_cons_zero, List.set_cons_succ])
  (try simp only [Exit.inBlock, Exit.then])
  refine bodyPost_ret (results_cell_row rfl _ _ w.heap.size 57 (wcells rr).toArray (0, 0) _ rfl (setRow_heap _ _ _ _ _ _ kr.out) rfl rfl (by rw [RS]; rfl)) rfl ?_
  exact ⟨rfl, below_setRow kx.out (Nat.le_refl _) _⟩

set_option maxHeartbeats 1000000 in
theorem factor_calls {w : World} {tg : TypeId × Nat × Nat} (hG : Gp w tg) : Calls Tryd.prog 59 #[] w fun e w' => e = .returned (eV 121665) ∧ Ext w w' := by
  have OF : Hid (∀ W, Ext w W → Calls Tryd.prog 30 #[.agg (cellsOf keyF).toArray] W fun e w' => e = .returned (eV 121665) ∧ Ext W w') := fun W e => by
    have := of_calls (ks := keyF) rfl (hG.ext e)
    rwa [ofVF] at this
  clear hG
  unfold eV at *
  have RL := lbs_len 8 121665
  generalize lbs 8 121665 = rr at *
  have RS := wcells_size RL
  have OR := wcells_one rr
  have hal2 := elem_alloc
  have ZL : zw8.length = 8 := rfl
  generalize zw8 = zs at *
  have ZS := wcells_size ZL
  have hb := Lib.hid builtF
  generalize keyF = ks at *
  have B0 : Hid (Wr (w.alloc (Obj.cells (wcells zs).toArray 57)) w.heap.size 57 zs) := Wr.new _ _ _
  go_enter Tryd.func59, Tryd.ntmps59
  go_wp2_with (refine wpList_build_as rfl _ _ rfl (cellsOf ks).toArray (by simp only [List.map_toArray, List.map_cons, List.map_nil]; exact hb.out) ?_; simp only [Act.put, List.setIfInBounds_toArray, List.set_cons_zero, List.set_cons_succ])
  refine (OF.out _ ((Ext.refl w).alloc _)).mono ?_
  rintro e w1 ⟨rfl, e1⟩
  have kr := Lib.hid (B0.out.kept e1 B0.out.lt)
  have kx : Hid (Ext w w1) := ((Ext.refl w).alloc _).trans e1
  clear B0 OF e1
  go_wp2_with (refine wpList_store_row rfl 57 _ _ rfl w.heap.size (wcells rr).toArray rfl rfl 57 _ kr.out (by rw [RS]; rfl) (by rw [RS, ZS]) OR ?_; simp only [Act.put, List.setIfInBounds_toArray, List.set_cons_zero, List.set_cons_succ])
  (try simp only [Exit.inBlock, Exit.then])
  refine bodyPost_ret (results_cell_row rfl _ _ w.heap.size 57 (wcells rr).toArray (0, 0) _ rfl (setRow_heap _ _ _ _ _ _ kr.out) rfl rfl (by rw [RS]; rfl)) rfl ?_
  exact ⟨rfl, below_setRow kx.out (Nat.le_refl _) _⟩
end Go.Proofs.YtadnmiedmcckkaaDoor
end

section
/-
  A struct that is laid of all its parts has their cells, one behind the other. No conditions.
-/
namespace Go.Proofs.YtadnmiedmcckkaaDoor
open Go.ChangeShapes Go.WideShapes Go.ChangeAt Go.RowKit Go.Deep

def partsV : Nat → List Value → List (Nat × Value)
  | _, [] => []
  | i, v :: r => (i, v) :: partsV (i + 1) r
def flatV : List Value → List Value
  | [] => []
  | v :: r => v.cells.toList ++ flatV r
def LayV (pl : Nat → Option (Nat × Nat)) : Nat → Nat → List Value → Prop
  | _, _, [] => True
  | i, off, v :: r => pl i = some (off, v.cells.size) ∧ LayV pl (i + 1) (off + v.cells.size) r
theorem fill_lay {pl : Nat → Option (Nat × Nat)} : ∀ (vs : List Value) (i off : Nat) (Z : Array Value), LayV pl i off vs → off + (flatV vs).length ≤ Z.size →
    ∃ r, Instr.fill pl Z (partsV i vs) = some r ∧ r.size = Z.size ∧ ∀ k, r[k]? = if off ≤ k ∧ k < off + (flatV vs).length then (flatV vs)[k - off]? else Z[k]?
  | [], i, off, Z, _, _ => ⟨Z, rfl, rfl, fun k => by rw [if_neg (by show ¬ (off ≤ k ∧ k < off + 0); omega)]⟩
  | v :: r, i, off, Z, ⟨h1, h2⟩, hz => by
    have hlen : (flatV (v :: r)).length = v.cells.size + (flatV r).length := by simp [flatV]
    obtain ⟨g1, g2⟩ := Great.foldl_set off v.cells.toList 0 Z
    rw [← fold_cells] at g1 g2
    obtain ⟨r', hr, hs, hk⟩ := fill_lay r (i + 1) (off + v.cells.size) _ h2 (by rw [g1]; omega)
    refine ⟨r', ?_, hs.trans g1, fun k => ?_⟩
    · show Instr.fill pl Z ((i, v) :: partsV (i + 1) r) = _
      unfold Instr.fill
      simp only [h1]
      rw [if_neg (by simp; omega)]
      exact hr
    · rw [hk k, g2 k, hlen]
      simp only [Nat.add_zero, Nat.zero_le, true_and, Array.length_toList, Nat.sub_zero]
      by_cases a : off ≤ k ∧ k < off + v.cells.size
      · rw [if_neg (by omega), if_pos (by omega), if_pos (by omega)]
        show _ = (v.cells.toList ++ flatV r)[k - off]?
        rw [List.getElem?_append_left (by simp; omega)]
      · by_cases b : off + v.cells.size ≤ k ∧ k < off + v.cells.size + (flatV r).length
        · rw [if_pos b, if_pos (by omega)]
          show _ = (v.cells.toList ++ flatV r)[k - off]?
          rw [List.getElem?_append_right (by simp; omega)]
          congr 1
          simp; omega
        · rw [if_neg b, if_neg (by omega), if_neg (by omega)]
theorem fill_struct {pl : Nat → Option (Nat × Nat)} {vs : List Value} {Z : Array Value} (h : LayV pl 0 0 vs) (hz : (flatV vs).length = Z.size) : Instr.fill pl Z (partsV 0 vs) = some (flatV vs).toArray := by
  obtain ⟨r, hr, hs, hk⟩ := fill_lay vs 0 0 Z h (by omega)
  rw [hr]
  congr 1
  apply Array.ext_getElem?
  intro k
  rw [hk k, Nat.zero_add, Nat.sub_zero]
  by_cases a : k < (flatV vs).length
  · rw [if_pos ⟨Nat.zero_le _, a⟩]; simp
  · rw [if_neg (fun q => a q.2), Array.getElem?_eq_none (by omega), Array.getElem?_eq_none (by simp; omega)]
end Go.Proofs.YtadnmiedmcckkaaDoor
end
