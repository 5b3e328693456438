import Derived.Test.YtadnmiedmcckkaaDoorRfKey
import Derived.Test.YtadnmiedmcckkaaDoorRfAdd
import Derived.Test.YtadnmiedmcckkaaDoorRfSub
import Derived.Test.YtadnmiedmcckkaaDoorRfMul
import Derived.Test.YtadnmiedmcckkaaDoorRfOf
import Derived.Test.YtadnmiedmcckkaaDoorRfInv
import Derived.Test.YtadnmiedmcckkaaDoorPkJ
import Derived.Test.YtadnmiedmcckkaaDoorScalar
section
/-
  The document's numbers, by what they are modulo p: contracts of palfreyref06 in one form.
-/
namespace Go.Proofs.YtadnmiedmcckkaaDoor
open Go.ChangeShapes Go.WideShapes Go.ChangeAt Go.RowKit Go.Deep
set_option maxRecDepth 100000

/-- Sixteen digits of a number that is v modulo p. -/
def IsN (cs : List Nat) (v : Nat) : Prop := ∃ c, c < B16 ∧ c % P25 = v ∧ cs = dgs 16 c
theorem IsN.len {cs : List Nat} {v : Nat} (h : IsN cs v) : cs.length = 16 := by obtain ⟨c, _, _, rfl⟩ := h; exact dgs_len 16 c
/-- Block g holds such digits. -/
def Un (w : World) (g v : Nat) : Prop := ∃ cs, Ur w g 33 cs ∧ IsN cs v
theorem Un.lt {w : World} {g v : Nat} (h : Un w g v) : g < w.heap.size := by obtain ⟨cs, h, _⟩ := h; exact h.lt
theorem Un.kept {B : Nat} {w w' : World} {g v : Nat} (h : Un w g v) (e : Below B w w') (hB : g < B) : Un w' g v := by obtain ⟨cs, h, hn⟩ := h; exact ⟨cs, h.kept e hB, hn⟩
section
variable {cs ds : List Nat} {x y : Nat} {w : World}
theorem nadd_calls (hx : IsN cs x) (hy : IsN ds y) : Calls Tryd.prog 39 #[.agg (ucells cs).toArray, .agg (ucells ds).toArray] w fun e w' => ∃ es, IsN es (addP x y) ∧ e = .returned (.agg (ucells es).toArray) ∧ Ext w w' := by
  obtain ⟨a, ha, hm, rfl⟩ := hx
  obtain ⟨b, hb, hn, rfl⟩ := hy
  refine rfadd_calls.mono ?_
  rintro e w' ⟨rfl, e1⟩
  exact ⟨_, ⟨addN a b, addN_lt a b, by rw [addN_mod ha hb, Nat.add_mod, hm, hn]; rfl, rfl⟩, rfl, e1⟩
theorem nsub_calls (hx : IsN cs x) (hy : IsN ds y) : Calls Tryd.prog 40 #[.agg (ucells cs).toArray, .agg (ucells ds).toArray] w fun e w' => ∃ es, IsN es (subP x y) ∧ e = .returned (.agg (ucells es).toArray) ∧ Ext w w' := by
  obtain ⟨a, ha, hm, rfl⟩ := hx
  obtain ⟨b, hb, hn, rfl⟩ := hy
  refine rfsub_calls.mono ?_
  rintro e w' ⟨rfl, e1⟩
  exact ⟨_, ⟨subN a b, subN_lt a b, by rw [subN_mod ha hb, hm, hn]; rfl, rfl⟩, rfl, e1⟩
theorem nmul_calls (hx : IsN cs x) (hy : IsN ds y) : Calls Tryd.prog 41 #[.agg (ucells cs).toArray, .agg (ucells ds).toArray] w fun e w' => ∃ es, IsN es (mulP x y) ∧ e = .returned (.agg (ucells es).toArray) ∧ Ext w w' := by
  obtain ⟨a, ha, hm, rfl⟩ := hx
  obtain ⟨b, hb, hn, rfl⟩ := hy
  refine (rfmul_calls ha hb).mono ?_
  rintro e w' ⟨z, hz, hzm, rfl, e1⟩
  exact ⟨_, ⟨z, hz, by rw [hzm, Nat.mul_mod, hm, hn]; rfl, rfl⟩, rfl, e1⟩
theorem ninv_calls (hx : IsN cs x) : Calls Tryd.prog 42 #[.agg (ucells cs).toArray] w fun e w' => ∃ es, IsN es (invF x) ∧ e = .returned (.agg (ucells es).toArray) ∧ Ext w w' := by
  obtain ⟨a, ha, hm, rfl⟩ := hx
  refine (rfinv_calls ha).mono ?_
  rintro e w' ⟨z, hz, hzm, rfl, e1⟩
  exact ⟨_, ⟨z, hz, by rw [hzm, hm], rfl⟩, rfl, e1⟩
theorem nkey_calls (hx : IsN cs x) : Calls Tryd.prog 18 #[.agg (ucells cs).toArray] w fun e w' => e = .returned (.agg (cellsOf (kL x)).toArray) ∧ Ext w w' := by
  obtain ⟨a, ha, hm, rfl⟩ := hx
  have := rfkey_calls (w := w) ha
  rwa [hm] at this
theorem nof_calls {ks : List UInt8} (hk : ks.length = 32) : Calls Tryd.prog 19 #[.agg (cellsOf ks).toArray] w fun e w' => ∃ es, IsN es (ofV ks) ∧ e = .returned (.agg (ucells es).toArray) ∧ Ext w w' := by
  refine (rfof_calls hk).mono ?_
  rintro e w' ⟨rfl, e1⟩
  exact ⟨_, ⟨ofM ks, ofM_lt ks, (ofV_ofM ks).symm, rfl⟩, rfl, e1⟩
end
def facD : List Nat := [56129, 1, 0, 0, 0, 0, 0, 0, 0, 0, 0, 0, 0, 0, 0, 0]
theorem facD_built : Tryd.prog.built 33 [(0, .int .u64 56129), (1, .int .u64 1)] = some (ucells facD).toArray := by kernel_rfl
theorem zeroD_built : Tryd.prog.built 33 [] = some (ucells zd16).toArray := by kernel_rfl
theorem facD_is : IsN facD 121665 := ⟨121665, by decide +kernel, by decide +kernel, by decide +kernel⟩
theorem oneD_is : IsN oneD 1 := ⟨1, by decide +kernel, by decide +kernel, by decide +kernel⟩
theorem zd16_is : IsN zd16 0 := ⟨0, by decide +kernel, by decide +kernel, by decide +kernel⟩
end Go.Proofs.YtadnmiedmcckkaaDoor
end

section
/-
  palfreyref07.bit.
-/
namespace Go.Proofs.YtadnmiedmcckkaaDoor
open Go.ChangeShapes Go.WideShapes Go.ChangeAt Go.RowKit Go.Deep
set_option maxRecDepth 100000

set_option maxHeartbeats 2000000 in
theorem rbit_calls {ks : List UInt8} {n : Nat} {w : World} (hk : ks.length = 32) (hn : n ≤ 254) :
    Calls Tryd.prog 38 #[.agg (cellsOf ks).toArray, .int .i64 (n : Int)] w fun e w' => e = .returned (.bool (bitB ks n)) ∧ Ext w w' := by
  have B0 : Hid (Ky (w.alloc (Obj.cells (cellsOf ks).toArray 23)) w.heap.size ks ∧ Ext w (w.alloc (Obj.cells (cellsOf ks).toArray 23))) := ⟨Ky.boxed w hk, (Ext.refl w).alloc _⟩
  by_cases h3 : n < 3
  · have hb : Hid (bitB ks n = false) := by unfold Hid bitB; rw [if_pos (by omega)]
    have t1 : decide ((n : Int) < 3) = true := decide_eq_true (by omega)
    go_enter Tryd.func38, Tryd.ntmps38
    go_wp2_with fail
    go_ret
    exact ⟨by rw [hb.out]; rfl, B0.out.2⟩
  · have t1 : decide ((n : Int) < 3) = false := decide_eq_false (by omega)
    have t2 : ((n : Int) == 255) = false := by simp; omega
    by_cases h4 : n = 254
    · have hb : Hid (bitB ks n = true) := by unfold Hid bitB; rw [if_neg (by omega), if_pos h4]
      have t3 : ((n : Int) == 254) = true := by simp; omega
      replace h4 := Lib.hid (fun _ : Unit => h4)
      go_enter Tryd.func38, Tryd.ntmps38
      go_wp2_with fail
      go_ret
      exact ⟨by rw [hb.out]; rfl, B0.out.2⟩
    · have t3 : ((n : Int) == 254) = false := by simp; omega
      obtain ⟨q, hq⟩ : ∃ q, q = n / 8 := ⟨_, rfl⟩
      obtain ⟨r, hr⟩ : ∃ r, r = n % 8 := ⟨_, rfl⟩
      have hb : Hid (bitB ks n = decide (bt ks q / 2 ^ r % 2 = 1)) := by unfold Hid bitB; rw [if_neg (by omega), if_neg h4, hq, hr]
      have iq : (n : Int) / 8 = (q : Int) := by omega
      have ir : (n : Int) % 8 = (r : Int) := by omega
      have iq' : Int.tdiv (n : Int) 8 = (q : Int) := by rw [Int.tdiv_eq_ediv_of_nonneg (by omega)]; omega
      have ir' : Int.tmod (n : Int) 8 = (r : Int) := by rw [Int.tmod_eq_emod_of_nonneg (by omega)]; omega
      have q32 : q < 32 := by omega
      have q32' : (q : Int) < 32 := by omega
      have q0 : (0 : Int) ≤ (q : Int) := by omega
      have r8 : (r : Int) < 8 := by omega
      have c6 := B0.out.1.cell q32
      have b256 := bt_lt ks q
      generalize bt ks q = u at *
      obtain ⟨y, hy⟩ : ∃ y, y = u / 2 ^ r := ⟨_, rfl⟩
      have y8 : y < 256 := by rw [hy]; exact Nat.lt_of_le_of_lt (Nat.div_le_self _ _) b256
      have s1 : Op.shift .shr .u8 (u : Int) .i64 (r : Int) = pure (.int .u8 (y : Int)) := by
        have := shift_shr .u8 .i64 (u : Int) (r : Int) (by omega) (by show (r : Int) ≤ 8; omega)
        rw [this, hy]
        simp
      have s3 : (u : Int) / 2 ^ r = (y : Int) := by rw [hy]; simp
      rw [← hy] at hb
      obtain ⟨t, ht⟩ : ∃ t, t = y % 2 := ⟨_, rfl⟩
      have s4 : (y : Int) % 2 = (t : Int) := by omega
      have s4' : Int.tmod (y : Int) 2 = (t : Int) := by rw [Int.tmod_eq_emod_of_nonneg (by omega)]; omega
      rw [← ht] at hb
      have t01 : t = 0 ∨ t = 1 := by omega
      clear hy ht hq hr y8 b256 h3 h4 hn
      rcases t01 with h | h
      · have t5 : ((t : Int) == 1) = false := by rw [h]; rfl
        have hb' : Hid (bitB ks n = false) := by unfold Hid; rw [hb.out, h]; rfl
        clear h hb
        go_enter Tryd.func38, Tryd.ntmps38
        go_wp2_with fail
        go_ret
        exact ⟨by rw [hb'.out]; rfl, B0.out.2⟩
      · have t5 : ((t : Int) == 1) = true := by rw [h]; rfl
        have hb' : Hid (bitB ks n = true) := by unfold Hid; rw [hb.out, h]; rfl
        clear h hb
        go_enter Tryd.func38, Tryd.ntmps38
        go_wp2_with fail
        go_ret
        exact ⟨by rw [hb'.out]; rfl, B0.out.2⟩
end Go.Proofs.YtadnmiedmcckkaaDoor
end
