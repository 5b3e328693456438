import Derived.Test.YtadnmiedmcckkaaDoorTwi
import Derived.Test.YtadnmiedmcckkaaDoorFermat
import Derived.Test.YtadnmiedmcckkaaDoorPair
section
/-
  The ladder on numbers, as the program reckons; it is the ladder of the field. Plain mathematics; no conditions.
-/
namespace Go.Proofs.YtadnmiedmcckkaaDoor
open Go.ChangeShapes Go.WideShapes Go.ChangeAt Go.RowKit Go.Deep
open Go.Edw (Fq Q25 stepF swapF ladF resF)

def addP (x y : Nat) : Nat := (x + y) % P25
def subP (x y : Nat) : Nat := (x + (P25 - y)) % P25
def mulP (x y : Nat) : Nat := x * y % P25
theorem addP_lt (x y : Nat) : addP x y < P25 := Nat.mod_lt _ P25_pos
theorem subP_lt (x y : Nat) : subP x y < P25 := Nat.mod_lt _ P25_pos
theorem mulP_lt (x y : Nat) : mulP x y < P25 := Nat.mod_lt _ P25_pos
abbrev StN := Nat × Nat × Nat × Nat
def stepN (x : Nat) (s : StN) : StN :=
  let e := addP s.1 s.2.2.1; let f := subP s.1 s.2.2.1; let g := addP s.2.1 s.2.2.2; let h := subP s.2.1 s.2.2.2
  let u := mulP e e; let v := mulP f f; let w := subP u v; let y := mulP h e; let z := mulP g f
  (mulP u v, mulP (addP y z) (addP y z), mulP w (addP u (mulP 121665 w)), mulP (mulP x (subP y z)) (subP y z))
def swapN (t : Bool) (s : StN) : StN := if t then (s.2.1, s.1, s.2.2.2, s.2.2.1) else s
def ladN (x : Nat) (bits : Nat → Bool) : Nat → StN
  | 0 => (1, x, 0, 1)
  | m + 1 => swapN (bits m) (stepN x (swapN (bits m) (ladN x bits m)))
/-- A secret's bit. -/
def bitB (ks : List UInt8) (i : Nat) : Bool := if i < 3 ∨ i = 255 then false else if i = 254 then true else decide (bt ks (i / 8) / 2 ^ (i % 8) % 2 = 1)
def multN (ks : List UInt8) (x : Nat) : Nat := mulP (ladN x (fun m => bitB ks (254 - m)) 255).1 (invF (ladN x (fun m => bitB ks (254 - m)) 255).2.2.1)
theorem multN_lt (ks : List UInt8) (x : Nat) : multN ks x < P25 := mulP_lt _ _

/-- .. all four below p. -/
def LtS (s : StN) : Prop := s.1 < P25 ∧ s.2.1 < P25 ∧ s.2.2.1 < P25 ∧ s.2.2.2 < P25
theorem swapN_lt {t : Bool} {s : StN} (h : LtS s) : LtS (swapN t s) := by
  cases t
  · exact h
  · exact ⟨h.2.1, h.1, h.2.2.2, h.2.2.1⟩
theorem stepN_lt (x : Nat) (s : StN) : LtS (stepN x s) := ⟨mulP_lt _ _, mulP_lt _ _, mulP_lt _ _, mulP_lt _ _⟩
theorem ladN_lt {x : Nat} (hx : x < P25) (bits : Nat → Bool) : ∀ m, LtS (ladN x bits m)
  | 0 => ⟨by show 1 < P25; decide +kernel, hx, P25_pos, by show 1 < P25; decide +kernel⟩
  | _ + 1 => swapN_lt (stepN_lt _ _)

theorem q25_eq : Q25 = P25 := P25_eq.symm
def toF (n : Nat) : Fq := ⟨n % Q25, Nat.mod_lt _ (by decide)⟩
theorem toF_val (n : Nat) : (toF n).val = n % P25 := by show n % Q25 = _; rw [q25_eq]
theorem toF_inj {x y : Nat} (hx : x < P25) (hy : y < P25) (h : toF x = toF y) : x = y := by
  have := congrArg Fin.val h
  rwa [toF_val, toF_val, Nat.mod_eq_of_lt hx, Nat.mod_eq_of_lt hy] at this
theorem toF_add (x y : Nat) : toF (addP x y) = toF x + toF y := Fin.ext (by
  rw [Fin.val_add, toF_val, toF_val, toF_val, addP, Nat.mod_mod, q25_eq, ← Nat.add_mod])
theorem toF_mul (x y : Nat) : toF (mulP x y) = toF x * toF y := Fin.ext (by
  rw [Fin.val_mul, toF_val, toF_val, toF_val, mulP, Nat.mod_mod, q25_eq, ← Nat.mul_mod])
theorem toF_sub (x : Nat) {y : Nat} (hy : y < P25) : toF (subP x y) = toF x - toF y := Fin.ext (by
  rw [Fin.sub_def]
  show (toF (subP x y)).val = (Q25 - (toF y).val + (toF x).val) % Q25
  rw [toF_val, toF_val, toF_val, subP, Nat.mod_mod, q25_eq, Nat.mod_eq_of_lt hy, Nat.add_mod_mod, Nat.add_comm])
theorem toF_inv {c : Nat} (hc : c < P25) : toF (invF c) = Go.Edw.fi (toF c) := by
  by_cases h : c = 0
  · subst h
    rw [invF_zero]
    have : toF 0 = 0 := rfl
    rw [this, Go.Edw.fi_zero]
  · refine (Go.Edw.fi_uniq ?_).symm
    rw [← toF_mul]
    have : mulP c (invF c) = 1 := mul_invF h hc
    rw [this]
    decide +kernel
def toS (s : StN) : Fq × Fq × Fq × Fq := (toF s.1, toF s.2.1, toF s.2.2.1, toF s.2.2.2)
theorem toS_swap (t : Bool) (s : StN) : toS (swapN t s) = swapF t (toS s) := by cases t <;> rfl
theorem toS_step {x : Nat} {s : StN} (h : LtS s) : toS (stepN x s) = stepF 121665 (toF x) (toS s) := by
  obtain ⟨a, b, c, d⟩ := s
  obtain ⟨h1, h2, h3, h4⟩ := h
  have k : toF 121665 = 121665 := by decide +kernel
  simp only [toS, stepN, stepF, toF_mul, toF_add, toF_sub _ h3, toF_sub _ h4, toF_sub _ (mulP_lt _ _), k]
theorem toS_lad {x : Nat} (hx : x < P25) (bits : Nat → Bool) : ∀ m, toS (ladN x bits m) = ladF 121665 (toF x) bits m
  | 0 => by
    show ((toF 1, toF x, toF 0, toF 1) : Fq × Fq × Fq × Fq) = (1, toF x, 0, 1)
    rw [show toF 1 = 1 by decide +kernel, show toF 0 = 0 from rfl]
  | m + 1 => by
    show toS (swapN (bits m) (stepN x (swapN (bits m) (ladN x bits m)))) = swapF (bits m) (stepF 121665 (toF x) (swapF (bits m) (ladF 121665 (toF x) bits m)))
    rw [toS_swap, toS_step (swapN_lt (ladN_lt hx bits m)), toS_swap, toS_lad hx bits m]
theorem toF_mult (ks : List UInt8) {x : Nat} (hx : x < P25) : toF (multN ks x) = resF 121665 (toF x) (fun m => bitB ks (254 - m)) := by
  have h := toS_lad hx (fun m => bitB ks (254 - m)) 255
  have hl := ladN_lt hx (fun m => bitB ks (254 - m)) 255
  unfold multN resF
  rw [← h, toF_mul, toF_inv hl.2.2.1]
  rfl
/-- Two secrets, one behind the other: in whichever order. -/
theorem mult_comm (ks ls : List UInt8) {x : Nat} (hx : x < P25) : multN ls (multN ks x) = multN ks (multN ls x) := by
  refine toF_inj (multN_lt _ _) (multN_lt _ _) ?_
  rw [toF_mult _ (multN_lt _ _), toF_mult _ hx, toF_mult _ (multN_lt _ _), toF_mult _ hx]
  exact Go.Edw.res_comm _ rfl rfl rfl rfl
theorem mult_zero (ks : List UInt8) : multN ks 0 = 0 := by
  refine toF_inj (multN_lt _ _) P25_pos ?_
  rw [toF_mult _ P25_pos]
  exact Go.Edw.res_zero rfl
end Go.Proofs.YtadnmiedmcckkaaDoor
end

section
/-
  curve.one, curve.curveFactor.
-/
namespace Go.Proofs.YtadnmiedmcckkaaDoor
open Go.ChangeShapes Go.WideShapes Go.ChangeAt Go.RowKit Go.Deep
set_option maxRecDepth 100000

def keyF : List UInt8 := [65, 219, 1] ++ List.replicate 29 0
def keyO : List UInt8 := [1] ++ List.replicate 31 0
def key9 : List UInt8 := [9] ++ List.replicate 31 0
theorem builtF : Tryd.prog.built 23 [(0, .int .u8 65), (1, .int .u8 219), (2, .int .u8 1)] = some (cellsOf keyF).toArray := by kernel_rfl
theorem builtO : Tryd.prog.built 23 [(0, .int .u8 1)] = some (cellsOf keyO).toArray := by kernel_rfl
theorem built9 : Tryd.prog.built 23 [(0, .int .u8 9)] = some (cellsOf key9).toArray := by kernel_rfl
theorem ofVF : ofV keyF = 121665 := by decide +kernel
theorem ofVO : ofV keyO = 1 := by decide +kernel
theorem ofV9 : ofV key9 = 9 := by decide +kernel

set_option maxHeartbeats 1000000 in
theorem one_calls {w : World} {tg : TypeId × Nat × Nat} (hG : Gp w tg) : Calls Tryd.prog 32 #[] w fun e w' => e = .returned (eV 1) ∧ Ext w w' := by
  have OF : Hid (∀ W, Ext w W → Calls Tryd.prog 30 #[.agg (cellsOf keyO).toArray] W fun e w' => e = .returned (eV 1) ∧ Ext W w') := fun W e => by
    have := of_calls (ks := keyO) rfl (hG.ext e)
    rwa [ofVO] at this
  clear hG
  unfold eV at *
  have RL := lbs_len 8 1
  generalize lbs 8 1 = rr at *
  have RS := wcells_size RL
  have OR := wcells_one rr
  have hal2 := elem_alloc
  have ZL : zw8.length = 8 := rfl
  generalize zw8 = zs at *
  have ZS := wcells_size ZL
  have hb := Lib.hid builtO
  generalize keyO = ks at *
  have B0 : Hid (Wr (w.alloc (Obj.cells (wcells zs).toArray 57)) w.heap.size 57 zs) := Wr.new _ _ _
  go_enter Tryd.func32, Tryd.ntmps32
  go_wp2_with (refine wpList_build_as rfl _ _ rfl (cellsOf ks).toArray (by simp only [List.map_toArray, List.map_cons, List.map_nil]; exact hb.out) ?_; simp only [Act.put, List.setIfInBounds_toArray, List.set_cons_zero, List.set_cons_succ])
  refine (OF.out _ ((Ext.refl w).alloc _)).mono ?_
  rintro e w1 ⟨rfl, e1⟩
  have kr := Lib.hid (B0.out.kept e1 B0.out.lt)
  have kx : Hid (Ext w w1) := ((Ext.refl w).alloc _).trans e1
  clear B0 OF e1
  go_wp2_with (refine wpList_store_row rfl 57 _ _ rfl w.heap.size (wcells rr).toArray rfl rfl 57 _ kr.out (by rw [RS]; rfl) (by rw [RS, ZS]) OR ?_; simp only [Act.put, List.setIfInBounds_toArray, List.set_cons_zero, List.set_cons_succ])
  (try simp only [Exit.inBlock, Exit.then])
  refine bodyPost_ret (results_cell_row rfl _ _ w.heap.size 57 (wcells rr).toArray (0, 0) _ rfl (setRow_heap _ _ _ _ _ _ kr.out) rfl rfl (by rw [RS]; rfl)) rfl ?_
  exact ⟨rfl, below_setRow kx.out (Nat.le_refl _) _⟩

set_option maxHeartbeats 1000000 in
theorem factor_calls {w : World} {tg : TypeId × Nat × Nat} (hG : Gp w tg) : Calls Tryd.prog 59 #[] w fun e w' => e = .returned (eV 121665) ∧ Ext w w' := by
  have OF : Hid (∀ W, Ext w W → Calls Tryd.prog 30 #[.agg (cellsOf keyF).toArray] W fun e w' => e = .returned (eV 121665) ∧ Ext W w') := fun W e => by
    have := of_calls (ks := keyF) rfl (hG.ext e)
    rwa [ofVF] at this
  clear hG
  unfold eV at *
  have RL := lbs_len 8 121665
  generalize lbs 8 121665 = rr at *
  have RS := wcells_size RL
  have OR := wcells_one rr
  have hal2 := elem_alloc
  have ZL : zw8.length = 8 := rfl
  generalize zw8 = zs at *
  have ZS := wcells_size ZL
  have hb := Lib.hid builtF
  generalize keyF = ks at *
  have B0 : Hid (Wr (w.alloc (Obj.cells (wcells zs).toArray 57)) w.heap.size 57 zs) := Wr.new _ _ _
  go_enter Tryd.func59, Tryd.ntmps59
  go_wp2_with (refine wpList_build_as rfl _ _ rfl (cellsOf ks).toArray (by simp only [List.map_toArray, List.map_cons, List.map_nil]; exact hb.out) ?_; simp only [Act.put, List.setIfInBounds_toArray, List.set_cons_zero, List.set_cons_succ])
  refine (OF.out _ ((Ext.refl w).alloc _)).mono ?_
  rintro e w1 ⟨rfl, e1⟩
  have kr := Lib.hid (B0.out.kept e1 B0.out.lt)
  have kx : Hid (Ext w w1) := ((Ext.refl w).alloc _).trans e1
  clear B0 OF e1
  go_wp2_with (refine wpList_store_row rfl 57 _ _ rfl w.heap.size (wcells rr).toArray rfl rfl 57 _ kr.out (by rw [RS]; rfl) (by rw [RS, ZS]) OR ?_; simp only [Act.put, List.setIfInBounds_toArray, List.set_cons_zero, List.set_cons_succ])
  (try simp only [Exit.inBlock, Exit.then])
  refine bodyPost_ret (results_cell_row rfl _ _ w.heap.size 57 (wcells rr).toArray (0, 0) _ rfl (setRow_heap _ _ _ _ _ _ kr.out) rfl rfl (by rw [RS]; rfl)) rfl ?_
  exact ⟨rfl, below_setRow kx.out (Nat.le_refl _) _⟩
end Go.Proofs.YtadnmiedmcckkaaDoor
end
