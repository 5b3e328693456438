/-
  Numbers as digits of 16 bits in cells of 64: what is carried. No conditions.
-/
import Derived.Test.YtadnmiedmcckkaaDoorWords
import Derived.Test.YtadnmiedmcckkaaDoorFldRed
namespace Go.Proofs.YtadnmiedmcckkaaDoor
open Go.ChangeShapes Go.WideShapes Go.ChangeAt Go.RowKit Go.Deep

/-- Numbers of 64 bits as cells. -/
def ucells (vs : List Nat) : List Value := vs.map fun x : Nat => Value.int .u64 (x : Int)
def Ur (w : World) (g : Nat) (t : TypeId) (vs : List Nat) : Prop := w.heap[g]? = some (.cells (ucells vs).toArray t (0, 0))
section
variable {w w' : World} {g : Nat} {t : TypeId} {vs : List Nat}
theorem Ur.lt (h : Ur w g t vs) : g < w.heap.size := heap_lt h
theorem Ur.cell (h : Ur w g t vs) {i : Nat} (hi : i < vs.length) : w.cell? ⟨g, i, none⟩ = some (.int .u64 (wd vs i : Int)) := by
  rw [cell_of_row w g i _ t (0, 0) h]
  simp [ucells, wd, List.getD, hi]
theorem Ur.frozen (h : Ur w g t vs) (i : Nat) : w.frozen? ⟨g, i, none⟩ = false := by
  unfold Ur at h
  simp [World.frozen?, h]
theorem Ur.set (h : Ur w g t vs) {k x : Nat} : Ur (w.setCell ⟨g, k, none⟩ (.int .u64 (x : Int))) g t (vs.set k x) := by
  have h1 := setCell_eq_setRow w g k _ t (0, 0) (.int .u64 (x : Int)) h
  unfold Ur
  rw [h1, setRow_heap w g _ _ t _ h]
  simp [ucells, List.map_set]
theorem Ur.kept {B : Nat} (h : Ur w g t vs) (he : Below B w w') (hB : g < B) : Ur w' g t vs := (he.block g hB).trans h
end
theorem ucells_size {vs : List Nat} {n : Nat} (h : vs.length = n) : (ucells vs).toArray.size = n := by simp [ucells, h]
theorem ucells_one (vs : List Nat) : (ucells vs).toArray.all (·.oneCell') = true := by
  rw [Array.all_eq_true_iff_forall_mem]
  intro v hv
  obtain ⟨j, _, rfl⟩ := List.mem_map.1 (List.mem_toArray.1 hv)
  rfl

/-- The i-th digit of a number. -/
def dg (x i : Nat) : Nat := x / 65536 ^ i % 65536
def dgs (n x : Nat) : List Nat := (List.range n).map (dg x)
theorem dg_lt (x i : Nat) : dg x i < 65536 := Nat.mod_lt _ (by decide)
theorem dgs_len (n x : Nat) : (dgs n x).length = n := by simp [dgs]
theorem wd_dgs {n x i : Nat} (h : i < n) : wd (dgs n x) i = dg x i := by simp [wd, dgs, List.getD, h]
/-- What the first digits come to. -/
def pV (ds : List Nat) : Nat → Nat
  | 0 => 0
  | i + 1 => pV ds i + wd ds i * 65536 ^ i
theorem pow16 (i : Nat) : 0 < 65536 ^ i := Nat.pow_pos (by decide)
theorem pV_more (ds : List Nat) (i : Nat) : ∀ n, ∃ k, pV ds (i + n) = pV ds i + 65536 ^ i * k
  | 0 => ⟨0, by simp⟩
  | n + 1 => by
    obtain ⟨k, hk⟩ := pV_more ds i n
    refine ⟨k + wd ds (i + n) * 65536 ^ n, ?_⟩
    rw [← Nat.add_assoc, pV, hk, Nat.pow_add, Nat.mul_add, Nat.mul_left_comm, Nat.add_assoc]
/-- What is carried into the i-th digit. -/
def cR (ds : List Nat) (i : Nat) : Nat := pV ds i / 65536 ^ i
theorem cR_sum (ds : List Nat) (i : Nat) : pV ds (i + 1) / 65536 ^ i = wd ds i + cR ds i := by
  rw [pV, Nat.add_mul_div_right _ _ (pow16 i), cR, Nat.add_comm]
theorem cR_succ (ds : List Nat) (i : Nat) : cR ds (i + 1) = (wd ds i + cR ds i) / 65536 := by
  rw [← cR_sum, cR, Nat.pow_succ, Nat.div_div_eq_div_mul]
theorem cR_zero (ds : List Nat) : cR ds 0 = 0 := by simp [cR, pV]
theorem cR_lt {ds : List Nat} {n : Nat} (h : ∀ i, i < n → wd ds i < 576460752303423488) : ∀ i, i ≤ n → cR ds i < 17592186044416
  | 0, _ => by rw [cR_zero]; omega
  | i + 1, hi => by
    have := cR_lt h i (by omega)
    have := h i (by omega)
    rw [cR_succ]
    omega
theorem dg_pV (ds : List Nat) {i n : Nat} (h : i < n) : dg (pV ds n) i = (wd ds i + cR ds i) % 65536 := by
  obtain ⟨k, hk⟩ := pV_more ds (i + 1) (n - (i + 1))
  rw [show i + 1 + (n - (i + 1)) = n by omega] at hk
  rw [dg, hk, Nat.pow_succ, Nat.mul_assoc, Nat.add_mul_div_left _ _ (pow16 i), cR_sum, Nat.add_mul_mod_self_left]
theorem pV_dgs (n x : Nat) : ∀ i, i ≤ n → pV (dgs n x) i = x % 65536 ^ i
  | 0, _ => by rw [pV, Nat.pow_zero, Nat.mod_one]
  | i + 1, h => by rw [pV, pV_dgs n x i (by omega), wd_dgs (by omega), Nat.pow_succ, Nat.mod_mul, dg, Nat.mul_comm (65536 ^ i)]
theorem pV_set0 {ds : List Nat} {z : Nat} (h : 0 < ds.length) : ∀ i, pV (ds.set 0 z) (i + 1) + wd ds 0 = pV ds (i + 1) + z
  | 0 => by rw [pV, pV, pV, pV, wd_set h, if_pos rfl, Nat.pow_zero]; omega
  | i + 1 => by
    have := pV_set0 (z := z) h i
    show pV (ds.set 0 z) (i + 1) + wd (ds.set 0 z) (i + 1) * 65536 ^ (i + 1) + wd ds 0 = pV ds (i + 1) + wd ds (i + 1) * 65536 ^ (i + 1) + z
    rw [wd_set h, if_neg (by omega)]
    omega
def B16 : Nat := 115792089237316195423570985008687907853269984665640564039457584007913129639936
theorem B16_eq : 65536 ^ 16 = B16 := by decide +kernel
/-- One round of carrying. -/
def rr (V : Nat) : Nat := V % B16 + 38 * (V / B16)
theorem rr_mod (V : Nat) : rr V % P25 = V % P25 := by
  have h := Nat.mod_add_div V B16
  have e : V = rr V + P25 * (2 * (V / B16)) := by
    unfold rr
    have hb : B16 = 2 * P25 + 38 := by decide +kernel
    conv => lhs; rw [← h]
    generalize V % B16 = r
    generalize V / B16 = q
    rw [hb, Nat.add_mul, ← Nat.mul_assoc, Nat.mul_comm P25 2]
    omega
  conv => rhs; rw [e]
  rw [Nat.add_mul_mod_self_left]
theorem rr_small {V : Nat} (h : V / B16 < 17592186044416) : rr (rr V) < B16 := by
  have h0 : (0 : Nat) < B16 := by decide +kernel
  have h1 : V % B16 < B16 := Nat.mod_lt _ h0
  have hb : 38 * 17592186044416 + 38 < B16 := by decide +kernel
  have h2 : rr V < B16 + 38 * 17592186044416 := by unfold rr; omega
  have h3 := Nat.div_add_mod (rr V) B16
  have h4 := Nat.mod_lt (rr V) h0
  rw [show rr (rr V) = rr V % B16 + 38 * (rr V / B16) from rfl]
  generalize rr V = U at *
  clear h h1
  generalize B16 = M at *
  have hq : U / M < 2 := Nat.div_lt_of_lt_mul (by omega)
  generalize U / M = q at *
  generalize U % M = r at *
  have : q = 0 ∨ q = 1 := by omega
  rcases this with rfl | rfl <;> omega
theorem rr_id {V : Nat} (h : V < B16) : rr V = V := by
  unfold rr
  rw [Nat.mod_eq_of_lt h, Nat.div_eq_of_lt h, Nat.mul_zero, Nat.add_zero]
/-- The digits behind a round. -/
def rd (V : Nat) : List Nat := (dgs 16 V).set 0 (dg V 0 + 38 * (V / B16))
theorem rd_len (V : Nat) : (rd V).length = 16 := by unfold rd; rw [List.length_set, dgs_len]
theorem rd_val (V : Nat) : pV (rd V) 16 = rr V := by
  have : pV ((dgs 16 V).set 0 (dg V 0 + 38 * (V / B16))) 16 + wd (dgs 16 V) 0 = pV (dgs 16 V) 16 + (dg V 0 + 38 * (V / B16)) := pV_set0 (ds := dgs 16 V) (z := dg V 0 + 38 * (V / B16)) (by rw [dgs_len]; omega) 15
  rw [pV_dgs 16 V 16 (Nat.le_refl _), wd_dgs (by omega), B16_eq] at this
  unfold rd rr
  omega
theorem rd_lt {V : Nat} (h : V / B16 < 17592186044416) : ∀ i, i < 16 → wd (rd V) i < 576460752303423488 := fun i hi => by
  unfold rd
  rw [wd_set (by rw [dgs_len]; omega)]
  have := dg_lt V 0
  split
  · omega
  · rw [wd_dgs hi]; have := dg_lt V i; omega
theorem rd_dgs {V : Nat} (h : V < B16) : rd V = dgs 16 V := by
  unfold rd
  rw [Nat.div_eq_of_lt h, Nat.mul_zero, Nat.add_zero]
  refine List.ext_getElem (by simp) fun i h1 h2 => ?_
  rw [List.getElem_set]
  split
  · rename_i q
    subst q
    simp [dgs]
  · rfl
end Go.Proofs.YtadnmiedmcckkaaDoor
