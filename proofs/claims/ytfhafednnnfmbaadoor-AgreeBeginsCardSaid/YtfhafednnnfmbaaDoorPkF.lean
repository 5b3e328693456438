import Derived.Test.YtfhafednnnfmbaaDoorRefMac
import Derived.Test.YtfhafednnnfmbaaDoorPkU
import Derived.Test.YtfhafednnnfmbaaDoorPkS
import Derived.Test.YtfhafednnnfmbaaDoorPkP
import Derived.Test.YtfhafednnnfmbaaDoorFldOf
import Derived.Test.YtfhafednnnfmbaaDoorSeq
section
/-
  The document's Sum.
-/
namespace Go.Proofs.YtfhafednnnfmbaaDoor
open Go.ChangeShapes Go.WideShapes Go.ChangeAt Go.RowKit Go.Deep

set_option maxRecDepth 100000 in
set_option maxHeartbeats 1000000 in
theorem refSum_calls {A : Option Addr} {m d : Nat} {bs : List UInt8} {w : World} (h : Bs w A m d bs) (hm : m ≤ 1000000) :
    Calls Tryd.prog 19 #[.slice A m d] w fun e w' => e = .returned (.agg (cellsOf (macL [] bs)).toArray) ∧ Ext w w' := by
  have hal : ∀ w, (zeroValue 23).run Tryd.prog w = .ok (.agg zeros32) w := fun _ => by kernel_rfl
  have HL : (cellsOf (macL [] bs)).toArray.size = 32 := by simp [cellsOf_len, macL_len]
  have H1 := cellsOf_one (macL [] bs)
  have CALL : Hid (Calls Tryd.prog 28 #[.slice none 0 0, .slice A m d] (w.alloc (Obj.cells zeros32 23)) fun e w' => e = .returned (.tuple #[.agg (cellsOf (macL [] bs)).toArray, .int .i64 0]) ∧ Ext (w.alloc (Obj.cells zeros32 23)) w') :=
    refMac_calls (Bs.nil _) (h.ext ((Ext.refl w).alloc _)) (by omega) hm
  have hz0 := zeros32_size
  generalize zeros32 = Z at *
  generalize (cellsOf (macL [] bs)).toArray = D at *
  go_enter Tryd.func19, Tryd.ntmps19
  go_wp2_with fail
  refine CALL.out.mono ?_
  rintro e w1 ⟨rfl, e1⟩
  have r0 := Lib.hid ((e1.block w.heap.size (by rw [size_alloc]; omega)).trans (heap_alloc_new w (Obj.cells Z 23)))
  have r1 : Hid (((w1.alloc (Obj.cells Z 23)).setRow w1.heap.size D).heap[w.heap.size]? = some (Obj.cells Z 23)) := (setRow_other _ _ _ _ (Nat.ne_of_lt (heap_lt r0.out))).trans (((Ext.refl w1).alloc _ |>.block _ (heap_lt r0.out)).trans r0.out)
  clear CALL
  go_wp2_with (first
    | refine wpList_store_row rfl 23 _ _ rfl w1.heap.size D rfl rfl 23 _ (by with_reducible exact heap_alloc_new _ _) (by rw [HL]; rfl) (by rw [HL]; exact hz0) H1 ?_
    | refine wpList_load_row rfl 23 _ rfl w1.heap.size rfl 23 D (0, 0) _ (by with_reducible exact setRow_heap _ _ _ _ _ _ (heap_alloc_new _ _)) rfl rfl (by rw [HL]; rfl) ?_
    | refine wpList_store_row rfl 23 _ _ rfl w.heap.size D rfl rfl 23 Z (by with_reducible exact r1.out) (by rw [HL]; rfl) (by rw [HL]; exact hz0) H1 ?_)
  (try simp only [Exit.inBlock, Exit.then])
  refine bodyPost_ret (results_cell_row rfl _ _ w.heap.size 23 D (0, 0) _ rfl (setRow_heap _ _ _ _ _ _ r1.out) rfl rfl (by rw [HL]; rfl)) rfl ?_
  exact ⟨rfl, below_setRow (below_setRow ((((Ext.refl w).alloc _).trans e1).alloc _) (Nat.le_of_lt (heap_lt r0.out)) _) (Nat.le_refl _) _⟩

end Go.Proofs.YtfhafednnnfmbaaDoor
end

section
/-
  Numbers as digits of 16 bits in cells of 64: what is carried. No conditions.
-/
namespace Go.Proofs.YtfhafednnnfmbaaDoor
open Go.ChangeShapes Go.WideShapes Go.ChangeAt Go.RowKit Go.Deep

/-- Numbers of 64 bits as cells. -/
def ucells (vs : List Nat) : List Value := vs.map fun x : Nat => Value.int .u64 (x : Int)
def Ur (w : World) (g : Nat) (t : TypeId) (vs : List Nat) : Prop := w.heap[g]? = some (.cells (ucells vs).toArray t (0, 0))
section
variable {w w' : World} {g : Nat} {t : TypeId} {vs : List Nat}
theorem Ur.lt (h : Ur w g t vs) : g < w.heap.size := heap_lt h
theorem Ur.cell (h : Ur w g t vs) {i : Nat} (hi : i < vs.length) : w.cell? ⟨g, i, none⟩ = some (.int .u64 (wd vs i : Int)) := by
  rw [cell_of_row w g i _ t (0, 0) h]
  simp [ucells, wd, List.getD, hi]
theorem Ur.frozen (h : Ur w g t vs) (i : Nat) : w.frozen? ⟨g, i, none⟩ = false := by
  unfold Ur at h
  simp [World.frozen?, h]
theorem Ur.set (h : Ur w g t vs) {k x : Nat} : Ur (w.setCell ⟨g, k, none⟩ (.int .u64 (x : Int))) g t (vs.set k x) := by
  have h1 := setCell_eq_setRow w g k _ t (0, 0) (.int .u64 (x : Int)) h
  unfold Ur
  rw [h1, setRow_heap w g _ _ t _ h]
  simp [ucells, List.map_set]
theorem Ur.kept {B : Nat} (h : Ur w g t vs) (he : Below B w w') (hB : g < B) : Ur w' g t vs := (he.block g hB).trans h
end
theorem ucells_size {vs : List Nat} {n : Nat} (h : vs.length = n) : (ucells vs).toArray.size = n := by simp [ucells, h]
theorem ucells_one (vs : List Nat) : (ucells vs).toArray.all (·.oneCell') = true := by
  rw [Array.all_eq_true_iff_forall_mem]
  intro v hv
  obtain ⟨j, _, rfl⟩ := List.mem_map.1 (List.mem_toArray.1 hv)
  rfl

/-- The i-th digit of a number. -/
def dg (x i : Nat) : Nat := x / 65536 ^ i % 65536
def dgs (n x : Nat) : List Nat := (List.range n).map (dg x)
theorem dg_lt (x i : Nat) : dg x i < 65536 := Nat.mod_lt _ (by decide)
theorem dgs_len (n x : Nat) : (dgs n x).length = n := by simp [dgs]
theorem wd_dgs {n x i : Nat} (h : i < n) : wd (dgs n x) i = dg x i := by simp [wd, dgs, List.getD, h]
/-- What the first digits come to. -/
def pV (ds : List Nat) : Nat → Nat
  | 0 => 0
  | i + 1 => pV ds i + wd ds i * 65536 ^ i
theorem pow16 (i : Nat) : 0 < 65536 ^ i := Nat.pow_pos (by decide)
theorem pV_more (ds : List Nat) (i : Nat) : ∀ n, ∃ k, pV ds (i + n) = pV ds i + 65536 ^ i * k
  | 0 => ⟨0, by simp⟩
  | n + 1 => by
    obtain ⟨k, hk⟩ := pV_more ds i n
    refine ⟨k + wd ds (i + n) * 65536 ^ n, ?_⟩
    rw [← Nat.add_assoc, pV, hk, Nat.pow_add, Nat.mul_add, Nat.mul_left_comm, Nat.add_assoc]
/-- What is carried into the i-th digit. -/
def cR (ds : List Nat) (i : Nat) : Nat := pV ds i / 65536 ^ i
theorem cR_sum (ds : List Nat) (i : Nat) : pV ds (i + 1) / 65536 ^ i = wd ds i + cR ds i := by
  rw [pV, Nat.add_mul_div_right _ _ (pow16 i), cR, Nat.add_comm]
theorem cR_succ (ds : List Nat) (i : Nat) : cR ds (i + 1) = (wd ds i + cR ds i) / 65536 := by
  rw [← cR_sum, cR, Nat.pow_succ, Nat.div_div_eq_div_mul]
theorem cR_zero (ds : List Nat) : cR ds 0 = 0 := by simp [cR, pV]
theorem cR_lt {ds : List Nat} {n : Nat} (h : ∀ i, i < n → wd ds i < 576460752303423488) : ∀ i, i ≤ n → cR ds i < 17592186044416
  | 0, _ => by rw [cR_zero]; omega
  | i + 1, hi => by
    have := cR_lt h i (by omega)
    have := h i (by omega)
    rw [cR_succ]
    omega
theorem dg_pV (ds : List Nat) {i n : Nat} (h : i < n) : dg (pV ds n) i = (wd ds i + cR ds i) % 65536 := by
  obtain ⟨k, hk⟩ := pV_more ds (i + 1) (n - (i + 1))
  rw [show i + 1 + (n - (i + 1)) = n by omega] at hk
  rw [dg, hk, Nat.pow_succ, Nat.mul_assoc, Nat.add_mul_div_left _ _ (pow16 i), cR_sum, Nat.add_mul_mod_self_left]
theorem pV_dgs (n x : Nat) : ∀ i, i ≤ n → pV (dgs n x) i = x % 65536 ^ i
  | 0, _ => by rw [pV, Nat.pow_zero, Nat.mod_one]
  | i + 1, h => by rw [pV, pV_dgs n x i (by omega), wd_dgs (by omega), Nat.pow_succ, Nat.mod_mul, dg, Nat.mul_comm (65536 ^ i)]
theorem pV_set0 {ds : List Nat} {z : Nat} (h : 0 < ds.length) : ∀ i, pV (ds.set 0 z) (i + 1) + wd ds 0 = pV ds (i + 1) + z
  | 0 => by rw [pV, pV, pV, pV, wd_set h, if_pos rfl, Nat.pow_zero]; omega
  | i + 1 => by
    have := pV_set0 (z := z) h i
    show pV (ds.set 0 z) (i + 1) + wd (ds.set 0 z) (i + 1) * 65536 ^ (i + 1) + wd ds 0 = pV ds (i + 1) + wd ds (i + 1) * 65536 ^ (i + 1) + z
    rw [wd_set h, if_neg (by omega)]
    omega
def B16 : Nat := 115792089237316195423570985008687907853269984665640564039457584007913129639936
theorem B16_eq : 65536 ^ 16 = B16 := by decide +kernel
/-- One round of carrying. -/
def rr (V : Nat) : Nat := V % B16 + 38 * (V / B16)
theorem rr_mod (V : Nat) : rr V % P25 = V % P25 := by
  have h := Nat.mod_add_div V B16
  have e : V = rr V + P25 * (2 * (V / B16)) := by
    unfold rr
    have hb : B16 = 2 * P25 + 38 := by decide +kernel
    conv => lhs; rw [← h]
    generalize V % B16 = r
    generalize V / B16 = q
    rw [hb, Nat.add_mul, ← Nat.mul_assoc, Nat.mul_comm P25 2]
    omega
  conv => rhs; rw [e]
  rw [Nat.add_mul_mod_self_left]
theorem rr_small {V : Nat} (h : V / B16 < 17592186044416) : rr (rr V) < B16 := by
  have h0 : (0 : Nat) < B16 := by decide +kernel
  have h1 : V % B16 < B16 := Nat.mod_lt _ h0
  have hb : 38 * 17592186044416 + 38 < B16 := by decide +kernel
  have h2 : rr V < B16 + 38 * 17592186044416 := by unfold rr; omega
  have h3 := Nat.div_add_mod (rr V) B16
  have h4 := Nat.mod_lt (rr V) h0
  rw [show rr (rr V) = rr V % B16 + 38 * (rr V / B16) from rfl]
  generalize rr V = U at *
  clear h h1
  generalize B16 = M at *
  have hq : U / M < 2 := Nat.div_lt_of_lt_mul (by omega)
  generalize U / M = q at *
  generalize U % M = r at *
  have : q = 0 ∨ q = 1 := by omega
  rcases this with rfl | rfl <;> omega
theorem rr_id {V : Nat} (h : V < B16) : rr V = V := by
  unfold rr
  rw [Nat.mod_eq_of_lt h, Nat.div_eq_of_lt h, Nat.mul_zero, Nat.add_zero]
/-- The digits behind a round. -/
def rd (V : Nat) : List Nat := (dgs 16 V).set 0 (dg V 0 + 38 * (V / B16))
theorem rd_len (V : Nat) : (rd V).length = 16 := by unfold rd; rw [List.length_set, dgs_len]
theorem rd_val (V : Nat) : pV (rd V) 16 = rr V := by
  have : pV ((dgs 16 V).set 0 (dg V 0 + 38 * (V / B16))) 16 + wd (dgs 16 V) 0 = pV (dgs 16 V) 16 + (dg V 0 + 38 * (V / B16)) := pV_set0 (ds := dgs 16 V) (z := dg V 0 + 38 * (V / B16)) (by rw [dgs_len]; omega) 15
  rw [pV_dgs 16 V 16 (Nat.le_refl _), wd_dgs (by omega), B16_eq] at this
  unfold rd rr
  omega
theorem rd_lt {V : Nat} (h : V / B16 < 17592186044416) : ∀ i, i < 16 → wd (rd V) i < 576460752303423488 := fun i hi => by
  unfold rd
  rw [wd_set (by rw [dgs_len]; omega)]
  have := dg_lt V 0
  split
  · omega
  · rw [wd_dgs hi]; have := dg_lt V i; omega
theorem rd_dgs {V : Nat} (h : V < B16) : rd V = dgs 16 V := by
  unfold rd
  rw [Nat.div_eq_of_lt h, Nat.mul_zero, Nat.add_zero]
  refine List.ext_getElem (by simp) fun i h1 h2 => ?_
  rw [List.getElem_set]
  split
  · rename_i q
    subst q
    simp [dgs]
  · rfl
end Go.Proofs.YtfhafednnnfmbaaDoor
end

section
/-
  palfreyref06.prime.
-/
namespace Go.Proofs.YtfhafednnnfmbaaDoor
open Go.ChangeShapes Go.WideShapes Go.ChangeAt Go.RowKit Go.Deep
set_option maxRecDepth 100000

/-- The prime's digits. -/
def pd (i : Nat) : Nat := if i = 0 then 65517 else if i = 15 then 32767 else 65535
theorem pd_dg : ∀ i, i < 16 → pd i = dg P25 i := by decide +kernel
theorem pd_lt (i : Nat) : pd i < 65536 := by unfold pd; split <;> (try split) <;> omega
theorem prime_calls {i : Nat} {w : World} : Calls Tryd.prog 58 #[.int .i64 (i : Int)] w fun e w' => e = .returned (.int .u64 (pd i : Int)) ∧ Ext w w' := by
  by_cases h0 : i = 0
  · have b0 : ((i : Int) == 0) = true := by simpa using h0
    have hp : Hid (pd i = 65517) := if_pos h0
    clear h0
    go_enter Tryd.func58, Tryd.ntmps58
    go_wp2_with fail
    go_ret
    exact ⟨by rw [hp.out]; rfl, Ext.refl _⟩
  · have b0 : ((i : Int) == 0) = false := by simpa using h0
    by_cases h15 : i = 15
    · have b1 : ((i : Int) == 15) = true := by rw [h15]; rfl
      have hp : Hid (pd i = 32767) := (if_neg h0).trans (if_pos h15)
      clear h0 h15
      go_enter Tryd.func58, Tryd.ntmps58
      go_wp2_with fail
      go_ret
      exact ⟨by rw [hp.out]; rfl, Ext.refl _⟩
    · have b1 : ((i : Int) == 15) = false := by
        have : ¬ (i : Int) = 15 := by omega
        simpa using this
      have hp : Hid (pd i = 65535) := (if_neg h0).trans (if_neg h15)
      clear h0 h15
      go_enter Tryd.func58, Tryd.ntmps58
      go_wp2_with fail
      go_ret
      exact ⟨by rw [hp.out]; rfl, Ext.refl _⟩

theorem div_up (v i : Nat) : v / 65536 ^ i = 65536 * (v / 65536 ^ (i + 1)) + dg v i := by
  rw [dg, show (65536 : Nat) ^ (i + 1) = 65536 ^ i * 65536 from Nat.pow_succ _ _, ← Nat.div_div_eq_div_mul]
  omega
/-- Where the digits above are the same, a digit tells. -/
theorem tell_digit {v p i : Nat} (h : v / 65536 ^ (i + 1) = p / 65536 ^ (i + 1)) (hd : dg v i ≠ dg p i) : decide (dg p i < dg v i) = decide (p ≤ v) := by
  have h1 := div_up v i
  have h2 := div_up p i
  rw [h] at h1
  by_cases q : dg p i < dg v i
  · rw [decide_eq_true q]
    refine (decide_eq_true ?_).symm
    rcases Nat.lt_or_ge v p with r | r
    · have := Nat.div_le_div_right (c := 65536 ^ i) (Nat.le_of_lt r)
      omega
    · exact r
  · rw [decide_eq_false q]
    refine (decide_eq_false fun r => ?_).symm
    have := Nat.div_le_div_right (c := 65536 ^ i) r
    omega
theorem same_digit {v p i : Nat} (h : v / 65536 ^ (i + 1) = p / 65536 ^ (i + 1)) (hd : dg v i = dg p i) : v / 65536 ^ i = p / 65536 ^ i := by
  rw [div_up v i, div_up p i, h, hd]
end Go.Proofs.YtfhafednnnfmbaaDoor
end

section
/-
  palfreyref06.carried.
-/
namespace Go.Proofs.YtfhafednnnfmbaaDoor
open Go.ChangeShapes Go.WideShapes Go.ChangeAt Go.RowKit Go.Deep
set_option maxRecDepth 100000

def zd16 : List Nat := List.replicate 16 0
theorem num_alloc (w : World) : (zeroValue 68).run Tryd.prog w = .ok (.agg (ucells zd16).toArray) w := by kernel_rfl
theorem words_dgs {vs : List Nat} {x : Nat} (hl : vs.length = 16) (h : ∀ j, j < 16 → wd vs j = dg x j) : vs = dgs 16 x := by
  refine List.ext_getElem (by rw [dgs_len, hl]) fun i h1 h2 => ?_
  have := h i (by omega)
  simp [wd, List.getD, h1] at this
  simp [dgs, this]
/-- The digits behind so many rounds. -/
def RL (ds : List Nat) : Nat → List Nat
  | 0 => ds
  | k + 1 => rd (pV (RL ds k) 16)
def Dig (ds : List Nat) : Prop := ds.length = 16 ∧ ∀ i, i < 16 → wd ds i < 576460752303423488
theorem Dig.top {ds : List Nat} (h : Dig ds) : pV ds 16 / B16 < 17592186044416 := by
  have := cR_lt (n := 16) h.2 16 (Nat.le_refl _)
  rw [cR, B16_eq] at this
  exact this
theorem RL_dig {ds : List Nat} (h : Dig ds) : ∀ k, Dig (RL ds k)
  | 0 => h
  | k + 1 => ⟨rd_len _, rd_lt (RL_dig h k).top⟩
/-- What carried makes of digits. -/
def cN (ds : List Nat) : Nat := rr (rr (pV ds 16))
theorem RL_end {ds : List Nat} (h : Dig ds) : RL ds 4 = dgs 16 (cN ds) := by
  have h1 := rr_small h.top
  have e1 : pV (RL ds 1) 16 = rr (pV ds 16) := rd_val _
  have e2 : pV (RL ds 2) 16 = cN ds := by rw [show RL ds 2 = rd (pV (RL ds 1) 16) from rfl, rd_val, e1]; rfl
  have e3 : pV (RL ds 3) 16 = cN ds := by rw [show RL ds 3 = rd (pV (RL ds 2) 16) from rfl, rd_val, e2]; exact rr_id h1
  rw [show RL ds 4 = rd (pV (RL ds 3) 16) from rfl, e3]
  exact rd_dgs h1
theorem cN_lt {ds : List Nat} (h : Dig ds) : cN ds < B16 := rr_small h.top
theorem cN_mod (ds : List Nat) : cN ds % P25 = pV ds 16 % P25 := by unfold cN; rw [rr_mod, rr_mod]

set_option maxHeartbeats 4000000 in
theorem carried_calls {ds : List Nat} {w : World} (hd : Dig ds) :
    Calls Tryd.prog 56 #[.agg (ucells ds).toArray] w fun e w' => e = .returned (.agg (ucells (dgs 16 (cN ds))).toArray) ∧ Ext w w' := by
  have hal := num_alloc
  have ZL : zd16.length = 16 := rfl
  generalize zd16 = zs at *
  have ZS := ucells_size ZL
  have RD : Hid (∀ k, Dig (RL ds k)) := RL_dig hd
  have RE := Lib.hid (RL_end hd)
  obtain ⟨R, hR⟩ : ∃ R : Nat → List Nat, R = RL ds := ⟨_, rfl⟩
  have RS : Hid (∀ (k : Nat) (_ : Unit), rd (pV (R k) 16) = R (k + 1)) := fun k _ => by rw [hR]; rfl
  have R0 : Hid (∀ _ : Unit, R 0 = ds) := fun _ => by rw [hR]; rfl
  rw [← hR] at RD RE
  clear hR
  generalize dgs 16 (cN ds) = rs at *
  have B0 : Hid (Ur ((w.alloc (Obj.cells (ucells ds).toArray 68)).alloc (Obj.cells (ucells zs).toArray 68)) w.heap.size 68 ds ∧ Ur ((w.alloc (Obj.cells (ucells ds).toArray 68)).alloc (Obj.cells (ucells zs).toArray 68)) (w.heap.size + 1) 68 zs ∧ Ext w ((w.alloc (Obj.cells (ucells ds).toArray 68)).alloc (Obj.cells (ucells zs).toArray 68))) := ⟨heap_alloc1 _ _ _, heap_alloc2 _ _ _, ((Ext.refl w).alloc _).alloc _⟩
  clear hd
  go_enter Tryd.func56, Tryd.ntmps56
  go_upto_region 1 with fail
  refine wp_gen (fun W => Ur W w.heap.size 68 ds ∧ Ur W (w.heap.size + 1) 68 zs ∧ Ext w W) B0.out ?_
  clear B0
  rintro W0 ⟨k0, k1, e0⟩
  replace k0 := Lib.hid k0
  replace k1 := Lib.hid k1
  replace e0 := Lib.hid e0
  go_wp2_with fail
  go_loopw [3] (fun iv wr => ∃ k : Nat, k ≤ 4 ∧ iv = .int .i64 (k : Int) ∧ Ur wr w.heap.size 68 (R k) ∧ Ur wr (w.heap.size + 1) 68 zs ∧ Ext w wr) (fun iv _ => 4 - (intOf iv).toNat)
  case atStart => exact ⟨0, Nat.zero_le _, rfl, by rw [R0.out ()]; exact k0.out, k1.out, e0.out⟩
  case round =>
    clear k0 k1 e0 R0
    obtain ⟨k, hk, rfl, k0, k1, e0⟩ := hrel
    replace k0 := Lib.hid k0
    replace k1 := Lib.hid k1
    replace e0 := Lib.hid e0
    by_cases hlt : k < 4
    · have ik : (k : Int) < 4 := by omega
      have ik0 : (0 : Int) ≤ (k : Int) := by omega
      have VL := (RD.out k).1
      have VB : Hid (∀ i, i < 16 → wd (R k) i < 576460752303423488) := (RD.out k).2
      have HN := Lib.hid (RS.out k)
      have DG : Hid (∀ i, i < 16 → dg (pV (R k) 16) i = (wd (R k) i + cR (R k) i) % 65536) := fun i hi => dg_pV _ hi
      have CS : Hid (∀ i, cR (R k) (i + 1) = (wd (R k) i + cR (R k) i) / 65536) := cR_succ _
      have CB : Hid (∀ i, i ≤ 16 → cR (R k) i < 17592186044416) := cR_lt (RD.out k).2
      have C0 := Lib.hid (cR_zero (R k))
      have C16 : Hid (cR (R k) 16 = pV (R k) 16 / B16) := by unfold Hid; rw [cR, B16_eq]
      clear RD RE RS
      obtain ⟨rn, hrn⟩ : ∃ rn, rn = R (k + 1) := ⟨_, rfl⟩
      rw [← hrn] at HN
      replace hrn := Lib.hid hrn
      generalize R k = vs at *
      obtain ⟨V, hV⟩ : ∃ V, V = pV vs 16 := ⟨_, rfl⟩
      rw [← hV] at HN DG C16
      clear hV
      go_wp2_with fail
      go_loopw [4, 5] (fun cv jv wr => ∃ (i : Nat) (us : List Nat), i ≤ 16 ∧ jv = .int .i64 (i : Int) ∧ cv = .int .u64 (cR vs i : Int) ∧ us.length = 16 ∧ (∀ j, j < i → wd us j = dg V j) ∧ (∀ j, i ≤ j → wd us j = wd vs j) ∧ Ur wr w.heap.size 68 us ∧ Ur wr (w.heap.size + 1) 68 zs ∧ Ext w wr) (fun _ jv _ => 16 - (intOf jv).toNat)
      case atStart => exact ⟨0, vs, Nat.zero_le _, rfl, by rw [C0.out]; rfl, VL, fun j hj => absurd hj (by omega), fun _ _ => rfl, k0.out, k1.out, e0.out⟩
      case round =>
        clear k0 k1 e0 C0
        obtain ⟨i, us, hi, rfl, rfl, ul, ud, ur, k0, k1, e0⟩ := hrel
        by_cases hlt2 : i < 16
        · have ii : (i : Int) < 16 := by omega
          have ii0 : (0 : Int) ≤ (i : Int) := by omega
          have cv := k0.cell (i := i) (by omega)
          have fv := k0.frozen i
          rw [ur i (Nat.le_refl _)] at cv
          have b1 := VB.out i hlt2
          have b2 := CB.out i (by omega)
          have hz := Lib.hid (DG.out i hlt2)
          have hc := Lib.hid (CS.out i)
          generalize wd vs i = a at *
          generalize cR vs i = c at *
          obtain ⟨T, hT⟩ : ∃ T, T = a + c := ⟨_, rfl⟩
          obtain ⟨z, hzz⟩ : ∃ z, z = T % 65536 := ⟨_, rfl⟩
          obtain ⟨d, hd⟩ : ∃ d, d = T / 65536 := ⟨_, rfl⟩
          rw [← hT, ← hzz] at hz
          rw [← hT, ← hd] at hc
          have f4 : (a : Int) + (c : Int) = (T : Int) := by omega
          have f4w : IntKind.u64.wrap (T : Int) = (T : Int) := by rw [IntKind.wrap_u64]; omega
          have f5 : (T : Int) % 65536 = (z : Int) := by omega
          have f5t : Int.tmod (T : Int) 65536 = (z : Int) := by rw [Int.tmod_eq_emod_of_nonneg (by omega)]; exact f5
          have f5w : IntKind.u64.wrap (z : Int) = (z : Int) := by rw [IntKind.wrap_u64]; omega
          have f6 : (T : Int) / 65536 = (d : Int) := by omega
          have f6t : Int.tdiv (T : Int) 65536 = (d : Int) := by rw [Int.tdiv_eq_ediv_of_nonneg (by omega)]; exact f6
          have f6w : IntKind.u64.wrap (d : Int) = (d : Int) := by rw [IntKind.wrap_u64]; omega
          have Tlt : T < 18446744073709551616 := by omega
          have il : Hid (i < us.length) := by unfold Hid; omega
          have gne : Hid (¬ w.heap.size + 1 = w.heap.size) := by unfold Hid; omega
          replace hT := Lib.hid hT
          replace hzz := Lib.hid hzz
          replace hd := Lib.hid hd
          replace ud := Lib.hid ud
          replace ur := Lib.hid ur
          replace k0 := Lib.hid k0
          replace k1 := Lib.hid k1
          replace e0 := Lib.hid e0
          clear b1 b2
          go_wp2_with fail
          refine ⟨⟨i + 1, us.set i z, by omega, by go_num, by rw [hc.out], by rw [List.length_set]; exact ul, fun j hj => ?_, fun j hj => ?_, k0.out.set, (Below.heap_setCell _ _ _ _ gne.out).trans k1.out, Ext.setCell e0.out (Nat.le_refl _) _⟩, by simp [intOf]; omega⟩
          · rw [wd_set il.out]
            by_cases e : j = i
            · rw [if_pos e, e]; exact hz.out.symm
            · rw [if_neg e]; exact ud.out j (by omega)
          · rw [wd_set il.out, if_neg (by omega)]; exact ur.out j (by omega)
        · obtain rfl : i = 16 := by omega
          have hu := words_dgs ul ud
          have c0 := k0.cell (i := 0) (by omega)
          have fv := k0.frozen 0
          rw [ud 0 (by omega)] at c0
          have b1 := dg_lt V 0
          have b2 := CB.out 16 (Nat.le_refl _)
          have hrd : Hid (∀ _ : Unit, us.set 0 (dg V 0 + 38 * cR vs 16) = rn) := fun _ => by rw [← HN.out (), C16.out, hu]; rfl
          generalize dg V 0 = a at *
          generalize cR vs 16 = c at *
          obtain ⟨p, hp⟩ : ∃ p, p = 38 * c := ⟨_, rfl⟩
          obtain ⟨T, hT⟩ : ∃ T, T = a + p := ⟨_, rfl⟩
          rw [← hp, ← hT] at hrd
          have f3 : (38 : Int) * (c : Int) = (p : Int) := by omega
          have f3w : IntKind.u64.wrap (p : Int) = (p : Int) := by rw [IntKind.wrap_u64]; omega
          have f4 : (a : Int) + (p : Int) = (T : Int) := by omega
          have f4w : IntKind.u64.wrap (T : Int) = (T : Int) := by rw [IntKind.wrap_u64]; omega
          have gne : Hid (¬ w.heap.size + 1 = w.heap.size) := by unfold Hid; omega
          replace hp := Lib.hid hp
          replace hT := Lib.hid hT
          replace k0 := Lib.hid k0
          replace k1 := Lib.hid k1
          replace e0 := Lib.hid e0
          clear b1 b2 ud ur hu HN DG CS CB C16 VB hlt2 hi
          go_wp2_with fail
          refine ⟨⟨k + 1, by omega, by go_num, ?_, (Below.heap_setCell _ _ _ _ gne.out).trans k1.out, Ext.setCell e0.out (Nat.le_refl _) _⟩, by simp [intOf]; omega⟩
          rw [← hrn.out, ← hrd.out ()]
          exact k0.out.set
    · obtain rfl : k = 4 := by omega
      rw [RE.out] at k0
      have L4 : Hid (rs.length = 16) := by unfold Hid; rw [← RE.out]; exact (RD.out 4).1
      have RSZ := ucells_size L4.out
      have R1 := ucells_one rs
      clear RD RE RS L4
      go_wp2_with (first
        | (refine wpList_load_row rfl 68 _ rfl w.heap.size rfl 68 (ucells rs).toArray (0, 0) _ k0.out rfl rfl (by rw [RSZ]; rfl) ?_; simp only [Act.put, List.setIfInBounds_toArray, List.set_cons_zero, List.set_cons_succ])
        | (refine wpList_store_row rfl 68 _ _ rfl (w.heap.size + 1) (ucells rs).toArray rfl rfl 68 _ k1.out (by rw [RSZ]; rfl) (by rw [RSZ, ZS]) R1 ?_; simp only [Act.put, List.setIfInBounds_toArray, List.set_cons_zero, List.set_cons_succ]))
      (try simp only [Exit.inBlock, Exit.then])
      refine bodyPost_ret (results_cell_row rfl _ _ (w.heap.size + 1) 68 (ucells rs).toArray (0, 0) _ rfl (setRow_heap _ _ _ _ _ _ k1.out) rfl rfl (by rw [RSZ]; rfl)) rfl ?_
      exact ⟨rfl, below_setRow e0.out (by omega) _⟩
end Go.Proofs.YtfhafednnnfmbaaDoor
end

section
/-
  A number's bytes are those of the number. No conditions.
-/
namespace Go.Proofs.YtfhafednnnfmbaaDoor

theorem bt_kL_div {x k : Nat} (h : k < 32) : bt (kL x) k = x / 256 ^ k % 256 := by
  rw [bt_kL h]
  have e : 256 ^ k = 4294967296 ^ (k / 4) * 256 ^ (k % 4) := by
    rw [← pow_four]
    congr 1
    omega
  rw [e, ← Nat.div_div_eq_div_mul]
  unfold lb
  generalize x / 4294967296 ^ (k / 4) = X
  have : k % 4 = 0 ∨ k % 4 = 1 ∨ k % 4 = 2 ∨ k % 4 = 3 := by omega
  rcases this with h | h | h | h <;> rw [h] <;> simp only [Nat.pow_zero, Nat.pow_succ, Nat.one_mul, Nat.div_one] <;> omega
theorem ofN_kL (x : Nat) : ∀ i, i ≤ 32 → ofN (kL x) i = x % 256 ^ i
  | 0, _ => by rw [ofN, Nat.pow_zero, Nat.mod_one]
  | i + 1, h => by
    rw [ofN, ofN_kL x i (by omega), bt_kL_div (by omega), Nat.pow_succ, Nat.mod_mul, Nat.mul_comm (256 ^ i)]
theorem ofV_kL {x : Nat} (h : x < P25) : ofV (kL x) = x := by
  have hH : x < H8 := Nat.lt_trans h (by decide +kernel)
  have hM : x < 256 ^ 32 := Nat.lt_trans hH (by decide +kernel)
  unfold ofV
  rw [ofN_kL x 32 (Nat.le_refl _), Nat.mod_eq_of_lt hM, Nat.mod_eq_of_lt hH, Nat.mod_eq_of_lt h]
end Go.Proofs.YtfhafednnnfmbaaDoor
end

section
/-
  For palfreyref06.Key: the prime is taken off digit by digit; the bytes of a number. No conditions.
-/
namespace Go.Proofs.YtfhafednnnfmbaaDoor
open Go.ChangeShapes Go.WideShapes Go.ChangeAt Go.RowKit Go.Deep

/-- What is owed by the digits below. -/
def bK (v : Nat) : Nat → Nat
  | 0 => 0
  | i + 1 => 1 - (dg v i + 65536 - dg P25 i - bK v i) / 65536
theorem bK_le (v : Nat) : ∀ i, bK v i ≤ 1
  | 0 => Nat.zero_le _
  | i + 1 => by rw [bK]; omega
theorem dg_step (x i : Nat) : x / 65536 ^ (i + 1) = x / 65536 ^ i / 65536 := by rw [Nat.pow_succ, Nat.div_div_eq_div_mul]
theorem key_div {v : Nat} (h : P25 ≤ v) : ∀ i, (v - P25) / 65536 ^ i + P25 / 65536 ^ i + bK v i = v / 65536 ^ i
  | 0 => by rw [Nat.pow_zero, Nat.div_one, Nat.div_one, Nat.div_one, bK]; omega
  | i + 1 => by
    have ih := key_div h i
    have hb := bK_le v i
    rw [dg_step, dg_step P25, dg_step v, bK]
    unfold dg
    generalize (v - P25) / 65536 ^ i = D at *
    generalize P25 / 65536 ^ i = P at *
    generalize v / 65536 ^ i = V at *
    generalize bK v i = b at *
    omega
theorem key_dg {v : Nat} (h : P25 ≤ v) (i : Nat) : dg (v - P25) i = (dg v i + 65536 - dg P25 i - bK v i) % 65536 := by
  have ih := key_div h i
  have hb := bK_le v i
  unfold dg
  generalize (v - P25) / 65536 ^ i = D at *
  generalize P25 / 65536 ^ i = P at *
  generalize v / 65536 ^ i = V at *
  generalize bK v i = b at *
  omega
/-- carried leaves a number's own digits. -/
theorem dgs_dig (x : Nat) : Dig (dgs 16 x) := ⟨dgs_len 16 x, fun i hi => by rw [wd_dgs hi]; have := dg_lt x i; omega⟩
theorem cN_dgs {x : Nat} (h : x < B16) : cN (dgs 16 x) = x := by
  unfold cN
  rw [pV_dgs 16 x 16 (Nat.le_refl _), B16_eq, Nat.mod_eq_of_lt h, rr_id h, rr_id h]
/-- The bytes of a digit. -/
theorem key_low {x i : Nat} (hi : i < 16) : bt (kL x) (2 * i) = dg x i % 256 := by
  rw [bt_kL_div (by omega), dg, show (256 : Nat) ^ (2 * i) = 65536 ^ i by rw [Nat.pow_mul]]
  generalize x / 65536 ^ i = X
  omega
theorem key_high {x i : Nat} (hi : i < 16) : bt (kL x) (2 * i + 1) = dg x i / 256 := by
  rw [bt_kL_div (by omega), dg, show (256 : Nat) ^ (2 * i + 1) = 65536 ^ i * 256 by rw [Nat.pow_succ, Nat.pow_mul], ← Nat.div_div_eq_div_mul]
  generalize x / 65536 ^ i = X
  omega
theorem mod_once {v x : Nat} (h : P25 ≤ v) (hm : v % P25 = x % P25) : (v - P25) % P25 = x % P25 := by
  rw [← hm, Nat.mod_eq_sub_mod h]
/-- What a block of digits comes to. -/
def mW (w : World) (g : Nat) : Nat := match w.heap[g]? with
  | some (.cells cs _ _) => pV (cs.toList.map fun v => match v with | .int _ z => z.toNat | _ => 0) 16
  | _ => 0
theorem mW_ur {w : World} {g : Nat} {t : TypeId} {vs : List Nat} (h : Ur w g t vs) : mW w g = pV vs 16 := by
  unfold mW
  unfold Ur at h
  rw [h]
  simp [ucells, List.map_map, Function.comp_def]
theorem mW_dgs {w : World} {g : Nat} {t : TypeId} {v : Nat} (h : Ur w g t (dgs 16 v)) (hv : v < B16) : mW w g = v := by
  rw [mW_ur h, pV_dgs 16 v 16 (Nat.le_refl _), B16_eq, Nat.mod_eq_of_lt hv]
end Go.Proofs.YtfhafednnnfmbaaDoor
end

section
/-
  palfreyref06.least.
-/
namespace Go.Proofs.YtfhafednnnfmbaaDoor
open Go.ChangeShapes Go.WideShapes Go.ChangeAt Go.RowKit Go.Deep
set_option maxRecDepth 100000

theorem Ur.boxed (w : World) (t : TypeId) (vs : List Nat) : Ur (w.alloc (.cells (ucells vs).toArray t)) w.heap.size t vs := heap_alloc_new _ _
set_option maxHeartbeats 4000000 in
theorem least_calls {v : Nat} {w : World} (hv : v < B16) :
    Calls Tryd.prog 57 #[.agg (ucells (dgs 16 v)).toArray] w fun e w' => e = .returned (.bool (decide (P25 ≤ v))) ∧ Ext w w' := by
  have PR : Hid (∀ (W : World) (i : Nat), Calls Tryd.prog 58 #[.int .i64 (i : Int)] W fun e w' => e = .returned (.int .u64 (pd i : Int)) ∧ Ext W w') := fun W i => prime_calls
  have st : Hid (v / 65536 ^ 16 = P25 / 65536 ^ 16) := by
    unfold Hid
    rw [B16_eq, Nat.div_eq_of_lt hv, Nat.div_eq_of_lt (show P25 < B16 by decide +kernel)]
  obtain ⟨L, hL⟩ : ∃ L, L = decide (P25 ≤ v) := ⟨_, rfl⟩
  have TD : Hid (∀ i, i < 16 → v / 65536 ^ (i + 1) = P25 / 65536 ^ (i + 1) → dg v i ≠ pd i → decide (pd i < dg v i) = L) := fun i hi h hd => by
    rw [hL, pd_dg i hi]
    exact tell_digit h (by rw [← pd_dg i hi]; exact hd)
  have SD : Hid (∀ i, i < 16 → v / 65536 ^ (i + 1) = P25 / 65536 ^ (i + 1) → dg v i = pd i → v / 65536 ^ i = P25 / 65536 ^ i) := fun i hi h hd => same_digit h (by rw [← pd_dg i hi]; exact hd)
  have LT : Hid (v / 65536 ^ 0 = P25 / 65536 ^ 0 → L = true) := fun h => by
    rw [Nat.pow_zero, Nat.div_one, Nat.div_one] at h
    rw [hL, h]
    exact decide_eq_true (Nat.le_refl _)
  rw [← hL]
  clear hL hv
  have XL := dgs_len 16 v
  have WX : Hid (∀ j, j < 16 → wd (dgs 16 v) j = dg v j) := fun j hj => wd_dgs hj
  have DL : Hid (∀ j, dg v j < 65536) := dg_lt v
  generalize dgs 16 v = xs at *
  obtain ⟨E, hE⟩ : ∃ E : Nat → Prop, E = fun m => v / 65536 ^ m = P25 / 65536 ^ m := ⟨_, rfl⟩
  have hE' : ∀ m, (v / 65536 ^ m = P25 / 65536 ^ m) = E m := fun m => by rw [hE]
  simp only [hE'] at st TD SD LT
  clear hE hE'
  obtain ⟨D, hD⟩ : ∃ D : Nat → Nat, D = dg v := ⟨_, rfl⟩
  rw [← hD] at TD SD WX DL
  clear hD
  have B0 : Hid (Ur (w.alloc (Obj.cells (ucells xs).toArray 68)) w.heap.size 68 xs ∧ Ext w (w.alloc (Obj.cells (ucells xs).toArray 68))) := ⟨Ur.boxed _ _ _, (Ext.refl w).alloc _⟩
  go_enter Tryd.func57, Tryd.ntmps57
  go_upto_region 1 with fail
  refine wp_gen (fun W => Ur W w.heap.size 68 xs ∧ Ext w W) B0.out ?_
  clear B0
  rintro W0 ⟨k0, e0⟩
  replace k0 := Lib.hid k0
  replace e0 := Lib.hid e0
  go_wp2_with fail
  go_loopw [3] (fun iv wr => ∃ m : Nat, m ≤ 16 ∧ iv = .int .i64 ((m : Int) - 1) ∧ E m ∧ Ur wr w.heap.size 68 xs ∧ Ext w wr) (fun iv _ => (intOf iv + 1).toNat)
  case atStart => exact ⟨16, Nat.le_refl _, rfl, st.out, k0.out, e0.out⟩
  case round =>
    clear k0 e0 st
    obtain ⟨m, hm, rfl, hs, k0, e0⟩ := hrel
    cases m with
    | zero =>
      have hl := LT.out hs
      replace hl := Lib.hid hl
      clear k0 hs TD SD LT PR WX DL
      replace e0 := Lib.hid e0
      rw [show ((0 : Nat) : Int) - 1 = -1 from rfl]
      go_wp2_with fail
      (try simp only [Exit.inBlock, Exit.then])
      go_ret
      exact ⟨by rw [hl.out]; rfl, e0.out⟩
    | succ i =>
      have hi : i < 16 := by omega
      rw [show ((i + 1 : Nat) : Int) - 1 = (i : Int) by omega]
      have ii : (i : Int) < 16 := by omega
      have ii0 : (0 : Int) ≤ (i : Int) := by omega
      have PRi := Lib.hid (fun W => PR.out W i)
      have b1 := DL.out i
      have b2 := pd_lt i
      have KC : Hid (∀ s, Ext wr s → s.cell? ⟨w.heap.size, i, none⟩ = some (.int .u64 (D i : Int))) := fun s e => by
        have := (k0.kept e k0.lt).cell (i := i) (by omega)
        rw [WX.out i hi] at this
        exact this
      have TDi := Lib.hid (TD.out i hi hs)
      have SDi := Lib.hid (SD.out i hi hs)
      have KK : Hid (∀ s, Ext wr s → Ur s w.heap.size 68 xs ∧ Ext w s) := fun s e => ⟨k0.kept e k0.lt, e0.trans e⟩
      clear k0 e0 hs TD SD LT PR WX DL
      have bw : IntKind.i64.wrap ((i : Int) - 1) = (i : Int) - 1 := IntWalk.i64_in _ (by omega)
      generalize D i = a at *
      generalize pd i = p at *
      by_cases q : a = p
      · have nb : ((a : Int) != (p : Int)) = false := by rw [q]; simp
        have hn := Lib.hid (SDi.out q)
        clear SDi TDi q
        go_wp2_with fail
        refine wp_region_seq (R := Ext) Ext.refl (fun _ _ _ => Ext.trans) [0, 1, 2, 3, 4, 5] [4] [(0, 9, 16), (1, 10, 516), (2, 11, 1024), (0, 12, 16), (8, 13, 4096), (20, 14, 10240)] (by kernel_rfl) (by kernel_rfl) (by kernel_rfl) rfl (by kernel_rfl) (by kernel_rfl) (fun _ _ d _ _ h => by cases d <;> exact h) ?_
        repeat (first | (refine seq_read _ (fun w' e => KC.out w' ((Ext.refl _).drew.trans e)) _ (v := ?_) rfl rfl (by rfl) ?_ ?_; rotate_left; (· intro w' hF; go_simp; (try with_reducible rfl)); simp only [Act.put, List.setIfInBounds_toArray, List.set_cons_zero, List.set_cons_succ]) | (refine seq_skip _ rfl rfl (by rfl) ?_; simp only [Act.put, List.setIfInBounds_toArray, List.set_cons_zero, List.set_cons_succ]))
        refine seq_do _ rfl rfl (by rfl) (fun K1 hK1 => ?_)
        go_simp
        refine (PRi.out _).mono ?_
        rintro e w2 ⟨rfl, e1⟩
        refine hK1.out _ _ e1 ?_
        clear hK1 K1
        try simp only [Act.put, List.setIfInBounds_toArray, List.set_cons_zero, List.set_cons_succ]
        repeat (first | (refine seq_read (fun _ => True) (fun _ _ => trivial) _ (v := ?_) rfl rfl (by rfl) ?_ ?_; rotate_left; (· intro w' hF; go_simp; (try with_reducible rfl)); simp only [Act.put, List.setIfInBounds_toArray, List.set_cons_zero, List.set_cons_succ]) | (refine seq_skip _ rfl rfl (by rfl) ?_; simp only [Act.put, List.setIfInBounds_toArray, List.set_cons_zero, List.set_cons_succ]))
        refine seq_done ?_
        have E1 := Lib.hid (KK.out w2 ((Ext.refl _).drew.trans e1))
        clear KK KC e1 PRi
        go_wp2_with fail
        refine ⟨⟨i, by omega, rfl, hn.out, E1.out.1, E1.out.2⟩, by simp [intOf]⟩
      · have nb : ((a : Int) != (p : Int)) = true := by
          have : ¬ (a : Int) = (p : Int) := by omega
          simpa using this
        have dt : Hid (decide (p < a) = L) := TDi.out q
        clear SDi TDi q
        go_wp2_with fail
        refine wp_region_seq (R := Ext) Ext.refl (fun _ _ _ => Ext.trans) [0, 1, 2, 3, 4, 5] [4] [(0, 9, 16), (1, 10, 516), (2, 11, 1024), (0, 12, 16), (8, 13, 4096), (20, 14, 10240)] (by kernel_rfl) (by kernel_rfl) (by kernel_rfl) rfl (by kernel_rfl) (by kernel_rfl) (fun _ _ d _ _ h => by cases d <;> exact h) ?_
        repeat (first | (refine seq_read _ (fun w' e => KC.out w' ((Ext.refl _).drew.trans e)) _ (v := ?_) rfl rfl (by rfl) ?_ ?_; rotate_left; (· intro w' hF; go_simp; (try with_reducible rfl)); simp only [Act.put, List.setIfInBounds_toArray, List.set_cons_zero, List.set_cons_succ]) | (refine seq_skip _ rfl rfl (by rfl) ?_; simp only [Act.put, List.setIfInBounds_toArray, List.set_cons_zero, List.set_cons_succ]))
        refine seq_do _ rfl rfl (by rfl) (fun K1 hK1 => ?_)
        go_simp
        refine (PRi.out _).mono ?_
        rintro e w2 ⟨rfl, e1⟩
        refine hK1.out _ _ e1 ?_
        clear hK1 K1
        try simp only [Act.put, List.setIfInBounds_toArray, List.set_cons_zero, List.set_cons_succ]
        repeat (first | (refine seq_read (fun _ => True) (fun _ _ => trivial) _ (v := ?_) rfl rfl (by rfl) ?_ ?_; rotate_left; (· intro w' hF; go_simp; (try with_reducible rfl)); simp only [Act.put, List.setIfInBounds_toArray, List.set_cons_zero, List.set_cons_succ]) | (refine seq_skip _ rfl rfl (by rfl) ?_; simp only [Act.put, List.setIfInBounds_toArray, List.set_cons_zero, List.set_cons_succ]))
        refine seq_done ?_
        have E1 := Lib.hid (KK.out w2 ((Ext.refl _).drew.trans e1))
        have KC2 : Hid (∀ s, Ext w2 s → s.cell? ⟨w.heap.size, i, none⟩ = some (.int .u64 (a : Int))) := fun s e => KC.out s ((Ext.refl _).drew.trans (e1.trans e))
        clear KK KC e1
        go_upto_region 5 with fail
        refine wp_region_seq (R := Ext) Ext.refl (fun _ _ _ => Ext.trans) [0, 1, 2, 3, 4, 5, 6] [4] [(0, 15, 16), (1, 16, 32772), (2, 17, 65536), (0, 18, 16), (8, 19, 262144), (20, 20, 655360), (63, 3, 1048576)] (by kernel_rfl) (by kernel_rfl) (by kernel_rfl) rfl (by kernel_rfl) (by kernel_rfl) (fun _ _ d _ _ h => by cases d <;> exact h) ?_
        repeat (first | (refine seq_read _ (fun w' e => KC2.out w' ((Ext.refl _).drew.trans e)) _ (v := ?_) rfl rfl (by rfl) ?_ ?_; rotate_left; (· intro w' hF; go_simp; (try with_reducible rfl)); simp only [Act.put, List.setIfInBounds_toArray, List.set_cons_zero, List.set_cons_succ]) | (refine seq_skip _ rfl rfl (by rfl) ?_; simp only [Act.put, List.setIfInBounds_toArray, List.set_cons_zero, List.set_cons_succ]))
        refine seq_do _ rfl rfl (by rfl) (fun K1 hK1 => ?_)
        go_simp
        refine (PRi.out _).mono ?_
        rintro e w3 ⟨rfl, e1⟩
        refine hK1.out _ _ e1 ?_
        clear hK1 K1
        try simp only [Act.put, List.setIfInBounds_toArray, List.set_cons_zero, List.set_cons_succ]
        repeat (first | (refine seq_read (fun _ => True) (fun _ _ => trivial) _ (v := ?_) rfl rfl (by rfl) ?_ ?_; rotate_left; (· intro w' hF; go_simp; (try with_reducible rfl)); simp only [Act.put, List.setIfInBounds_toArray, List.set_cons_zero, List.set_cons_succ]) | (refine seq_skip _ rfl rfl (by rfl) ?_; simp only [Act.put, List.setIfInBounds_toArray, List.set_cons_zero, List.set_cons_succ]))
        refine seq_done ?_
        have EE := Lib.hid (E1.out.2.trans ((Ext.refl _).drew.trans e1))
        clear KC2 E1 e1 PRi
        go_wp2_with fail
        (try simp only [Exit.inBlock, Exit.then])
        go_ret
        exact ⟨by rw [← dt.out]; rfl, EE.out⟩
end Go.Proofs.YtfhafednnnfmbaaDoor
end
