/-
  palfreyref06.Inv.
-/
import Derived.Test.YtadnmiedmcckkaaDoorRfMul
import Derived.Test.YtadnmiedmcckkaaDoorFldInv
namespace Go.Proofs.YtadnmiedmcckkaaDoor
open Go.ChangeShapes Go.WideShapes Go.ChangeAt Go.RowKit Go.Deep
set_option maxRecDepth 100000

def oneD : List Nat := [1, 0, 0, 0, 0, 0, 0, 0, 0, 0, 0, 0, 0, 0, 0, 0]
theorem oneD_eq : oneD = dgs 16 1 := by decide +kernel
theorem oneD_built : Tryd.prog.built 33 [(0, .int .u64 1)] = some (ucells oneD).toArray := by kernel_rfl

set_option maxHeartbeats 8000000 in
theorem rfinv_calls {x : Nat} {w : World} (hx : x < B16) :
    Calls Tryd.prog 42 #[.agg (ucells (dgs 16 x)).toArray] w fun e w' => ∃ z, z < B16 ∧ z % P25 = invF (x % P25) ∧ e = .returned (.agg (ucells (dgs 16 z)).toArray) ∧ Ext w w' := by
  have SQ : Hid (∀ (W : World) (a m : Nat), a < B16 → a % P25 = iA (x % P25) m → Calls Tryd.prog 41 #[.agg (ucells (dgs 16 a)).toArray, .agg (ucells (dgs 16 a)).toArray] W fun e w' => ∃ cs : List Nat, cs.length = 16 ∧ (∃ c, c < B16 ∧ c % P25 = iA (x % P25) m * iA (x % P25) m % P25 ∧ cs = dgs 16 c) ∧ e = .returned (.agg (ucells cs).toArray) ∧ Ext W w') := fun W a m h hm => by
    refine (rfmul_calls h h).mono ?_
    rintro e w' ⟨z, hz, hzm, rfl, e1⟩
    exact ⟨dgs 16 z, dgs_len 16 z, ⟨z, hz, by rw [hzm, Nat.mul_mod, hm], rfl⟩, rfl, e1⟩
  have MX : Hid (∀ (W : World) (a t : Nat), a < B16 → a % P25 = t → Calls Tryd.prog 41 #[.agg (ucells (dgs 16 a)).toArray, .agg (ucells (dgs 16 x)).toArray] W fun e w' => ∃ cs : List Nat, cs.length = 16 ∧ (∃ c, c < B16 ∧ c % P25 = t * (x % P25) % P25 ∧ cs = dgs 16 c) ∧ e = .returned (.agg (ucells cs).toArray) ∧ Ext W w') := fun W a t h hm => by
    refine (rfmul_calls h hx).mono ?_
    rintro e w' ⟨z, hz, hzm, rfl, e1⟩
    exact ⟨dgs 16 z, dgs_len 16 z, ⟨z, hz, by rw [hzm, Nat.mul_mod, hm], rfl⟩, rfl, e1⟩
  have hxP : Hid (x % P25 * 1 % P25 = x % P25) := by unfold Hid; rw [Nat.mul_one, Nat.mod_mod]
  obtain ⟨X, hX⟩ : ∃ X, X = x % P25 := ⟨_, rfl⟩
  rw [← hX] at SQ MX hxP ⊢
  have IS : Hid (∀ m, (m = 252 ∨ m = 250) → iA X (m + 1) = iA X m * iA X m % P25) := fun m h => by rw [iA, if_pos h]
  have IN : Hid (∀ m, ¬ (m = 252 ∨ m = 250) → iA X (m + 1) = iA X m * iA X m % P25 * X % P25) := fun m h => by rw [iA, if_neg h]
  have I0 : Hid (1 % P25 = iA X 0) := by unfold Hid; rw [iA]; decide +kernel
  have IE : Hid (iA X 255 = invF X) := rfl
  generalize invF X = R at *
  obtain ⟨f, hf⟩ : ∃ f : Nat → Nat, f = iA X := ⟨_, rfl⟩
  rw [← hf] at SQ IS IN I0 IE
  clear hf hX hxP hx
  have hal := num_alloc
  have ZL : zd16.length = 16 := rfl
  generalize zd16 = zs at *
  have ZS := ucells_size ZL
  have XL := dgs_len 16 x
  have XS := ucells_size XL
  generalize dgs 16 x = xs at *
  have O1L : oneD.length = 16 := rfl
  have hb1 := Lib.hid oneD_built
  have o1e : Hid (∀ _ : Unit, oneD = dgs 16 1) := fun _ => oneD_eq
  generalize oneD = ow at *
  have OS := ucells_size O1L
  have O1 := ucells_one ow
  have B0 : Hid (Ur (((w.alloc (Obj.cells (ucells xs).toArray 33)).alloc (Obj.cells (ucells zs).toArray 33)).alloc (Obj.cells (ucells zs).toArray 33)) w.heap.size 33 xs ∧ Ur (((w.alloc (Obj.cells (ucells xs).toArray 33)).alloc (Obj.cells (ucells zs).toArray 33)).alloc (Obj.cells (ucells zs).toArray 33)) (w.heap.size + 1) 33 zs ∧ Ur (((w.alloc (Obj.cells (ucells xs).toArray 33)).alloc (Obj.cells (ucells zs).toArray 33)).alloc (Obj.cells (ucells zs).toArray 33)) (w.heap.size + 1 + 1) 33 zs ∧ Ext w (((w.alloc (Obj.cells (ucells xs).toArray 33)).alloc (Obj.cells (ucells zs).toArray 33)).alloc (Obj.cells (ucells zs).toArray 33))) := ⟨heap_alloc30 _ _ _ _, heap_alloc31 _ _ _ _, heap_alloc32 _ _ _ _, (((Ext.refl w).alloc _).alloc _).alloc _⟩
  go_enter Tryd.func42, Tryd.ntmps42
  go_upto_region 2 with (first
    | (refine wpList_build_as rfl _ _ rfl (ucells ow).toArray (by simp only [List.map_toArray, List.map_cons, List.map_nil]; exact hb1.out) ?_; simp only [Act.put, List.setIfInBounds_toArray, List.set_cons_zero, List.set_cons_succ])
    | (refine wpList_store_row rfl 33 _ _ rfl (w.heap.size + 1 + 1) (ucells ow).toArray rfl rfl 33 _ B0.out.2.2.1 (by rw [OS]; rfl) (by rw [OS, ZS]) O1 ?_; simp only [Act.put, List.setIfInBounds_toArray, List.set_cons_zero, List.set_cons_succ]))
  refine wp_gen (fun W => Ur W w.heap.size 33 xs ∧ Ur W (w.heap.size + 1) 33 zs ∧ Ur W (w.heap.size + 1 + 1) 33 ow ∧ Ext w W) ⟨(setRow_other _ _ _ _ (by omega)).trans B0.out.1, (setRow_other _ _ _ _ (by omega)).trans B0.out.2.1, setRow_heap _ _ _ _ _ _ B0.out.2.2.1, below_setRow B0.out.2.2.2 (by omega) _⟩ ?_
  clear B0
  rintro W0 ⟨k0, k1, k2, e0⟩
  replace k0 := Lib.hid k0
  replace k1 := Lib.hid k1
  replace k2 := Lib.hid k2
  replace e0 := Lib.hid e0
  go_wp2_with fail
  go_loopw [4] (fun iv wr => ∃ (m z : Nat), m ≤ 255 ∧ iv = .int .i64 (254 - (m : Int)) ∧ z < B16 ∧ z % P25 = f m ∧ Ur wr w.heap.size 33 xs ∧ Ur wr (w.heap.size + 1) 33 zs ∧ Ur wr (w.heap.size + 1 + 1) 33 (dgs 16 z) ∧ Ext w wr) (fun iv _ => (intOf iv + 1).toNat)
  case atStart => exact ⟨0, 1, Nat.zero_le _, rfl, by decide +kernel, I0.out, k0.out, k1.out, by rw [← o1e.out ()]; exact k2.out, e0.out⟩
  case round =>
    clear k0 k1 k2 e0 I0 o1e
    obtain ⟨m, z, hm, rfl, hz, hzm, k0, k1, k2, e0⟩ := hrel
    have L_z := dgs_len 16 z
    have S_z := ucells_size L_z
    by_cases hlt : m < 255
    · obtain ⟨b, hb⟩ : ∃ b : Int, b = 254 - (m : Int) := ⟨_, rfl⟩
      rw [← hb]
      have b0 : (0 : Int) ≤ b := by omega
      have b1 : b ≤ 254 := by omega
      have bw : IntKind.i64.wrap (b - 1) = b - 1 := IntWalk.i64_in _ (by omega)
      have hbn : Hid (b - 1 = 254 - ((m + 1 : Nat) : Int)) := by unfold Hid; omega
      have SQm := Lib.hid (fun W => SQ.out W z m hz hzm)
      have CASE : Hid (((b = 2 ∨ b = 4) ∧ f (m + 1) = f m * f m % P25) ∨ ((¬ b = 2 ∧ ¬ b = 4) ∧ f (m + 1) = f m * f m % P25 * X % P25)) := by
        unfold Hid
        by_cases q : m = 252 ∨ m = 250
        · exact .inl ⟨by omega, IS.out m q⟩
        · exact .inr ⟨by omega, IN.out m q⟩
      clear IS IN IE SQ hz hzm
      replace hb := Lib.hid hb
      generalize dgs 16 z = zz at *
      replace k0 := Lib.hid k0
      replace k1 := Lib.hid k1
      replace k2 := Lib.hid k2
      replace e0 := Lib.hid e0
      go_wp2_with (refine wpList_load_row rfl 33 _ rfl (w.heap.size + 1 + 1) rfl 33 (ucells zz).toArray (0, 0) _ k2.out rfl rfl (by rw [S_z]; rfl) ?_; simp only [Act.put, List.setIfInBounds_toArray, List.set_cons_zero, List.set_cons_succ])
      refine (SQm.out _).mono ?_
      rintro e w1 ⟨cs, cl, hc, rfl, e1⟩
      replace hc := Lib.hid hc
      have S_c := ucells_size cl
      have O_c := ucells_one cs
      have m0 := Lib.hid (k0.out.kept e1 k0.out.lt)
      have m1 := Lib.hid (k1.out.kept e1 k1.out.lt)
      have m2 := Lib.hid (k2.out.kept e1 k2.out.lt)
      have m3 := Lib.hid (e0.out.trans e1)
      clear k0 k1 k2 e0 e1 SQm
      go_upto_region 6 with (refine wpList_store_row rfl 33 _ _ rfl (w.heap.size + 1 + 1) (ucells cs).toArray rfl rfl 33 _ m2.out (by rw [S_c]; rfl) (by rw [S_c, S_z]) O_c ?_; simp only [Act.put, List.setIfInBounds_toArray, List.set_cons_zero, List.set_cons_succ])
      refine wp_gen (fun W => Ur W w.heap.size 33 xs ∧ Ur W (w.heap.size + 1) 33 zs ∧ Ur W (w.heap.size + 1 + 1) 33 cs ∧ Ext w W) ⟨(setRow_other _ _ _ _ (by omega)).trans m0.out, (setRow_other _ _ _ _ (by omega)).trans m1.out, setRow_heap _ _ _ _ _ _ m2.out, below_setRow m3.out (by omega) _⟩ ?_
      clear m0 m1 m2 m3 S_z L_z
      rintro w2 ⟨k0, k1, k2, e0⟩
      replace k0 := Lib.hid k0
      replace k1 := Lib.hid k1
      replace k2 := Lib.hid k2
      replace e0 := Lib.hid e0
      rcases CASE.out with ⟨hbb, hfe⟩ | ⟨⟨n2, n4⟩, hfe⟩
      · clear CASE MX
        have hfe' := Lib.hid (fun _ : Unit => hfe)
        clear hfe
        rcases hbb with rfl | rfl <;>
        · go_wp2_with fail
          obtain ⟨c, hcB, hcm, hce⟩ := hc.out
          exact ⟨⟨m + 1, c, by omega, by rw [← hbn.out]; rfl, hcB, by rw [hfe'.out ()]; exact hcm, k0.out, k1.out, by rw [← hce]; exact k2.out, e0.out⟩, by simp [intOf]⟩
      · clear CASE
        have hfe' := Lib.hid (fun _ : Unit => hfe)
        clear hfe
        have n2b : (b != 2) = true := by simpa using n2
        have n4b : (b != 4) = true := by simpa using n4
        have MXc : Hid (∀ W, Calls Tryd.prog 41 #[.agg (ucells cs).toArray, .agg (ucells xs).toArray] W fun e w' => ∃ ds : List Nat, ds.length = 16 ∧ (∃ c, c < B16 ∧ c % P25 = f m * f m % P25 * X % P25 ∧ ds = dgs 16 c) ∧ e = .returned (.agg (ucells ds).toArray) ∧ Ext W w') := fun W => by
          obtain ⟨c, hcB, hcm, hce⟩ := hc.out
          rw [hce]
          exact MX.out W c _ hcB hcm
        clear MX hc
        go_wp2_with (first
          | (refine wpList_load_row rfl 33 _ rfl (w.heap.size + 1 + 1) rfl 33 (ucells cs).toArray (0, 0) _ k2.out rfl rfl (by rw [S_c]; rfl) ?_; simp only [Act.put, List.setIfInBounds_toArray, List.set_cons_zero, List.set_cons_succ])
          | (refine wpList_load_row rfl 33 _ rfl w.heap.size rfl 33 (ucells xs).toArray (0, 0) _ k0.out rfl rfl (by rw [XS]; rfl) ?_; simp only [Act.put, List.setIfInBounds_toArray, List.set_cons_zero, List.set_cons_succ]))
        refine (MXc.out _).mono ?_
        rintro e w3 ⟨ds, dl, hd, rfl, e1⟩
        replace hd := Lib.hid hd
        have S_d := ucells_size dl
        have O_d := ucells_one ds
        have m0 := Lib.hid (k0.out.kept e1 k0.out.lt)
        have m1 := Lib.hid (k1.out.kept e1 k1.out.lt)
        have m2 := Lib.hid (k2.out.kept e1 k2.out.lt)
        have m3 := Lib.hid (e0.out.trans e1)
        clear k0 k1 k2 e0 e1 MXc
        go_wp2_with (refine wpList_store_row rfl 33 _ _ rfl (w.heap.size + 1 + 1) (ucells ds).toArray rfl rfl 33 _ m2.out (by rw [S_d]; rfl) (by rw [S_d, S_c]) O_d ?_; simp only [Act.put, List.setIfInBounds_toArray, List.set_cons_zero, List.set_cons_succ])
        obtain ⟨c, hcB, hcm, hce⟩ := hd.out
        exact ⟨⟨m + 1, c, by omega, by rw [← hbn.out], hcB, by rw [hfe'.out ()]; exact hcm, (setRow_other _ _ _ _ (by omega)).trans m0.out, (setRow_other _ _ _ _ (by omega)).trans m1.out, by rw [← hce]; exact setRow_heap _ _ _ _ _ _ m2.out, below_setRow m3.out (by omega) _⟩, by simp [intOf]; omega⟩
    · obtain rfl : m = 255 := by omega
      rw [IE.out] at hzm
      have O_z := ucells_one (dgs 16 z)
      obtain ⟨zz, hzz⟩ : ∃ zz, zz = dgs 16 z := ⟨_, rfl⟩
      rw [← hzz] at k2 L_z S_z O_z
      replace hzz := Lib.hid (fun _ : Unit => hzz)
      replace hz := Lib.hid hz
      replace hzm := Lib.hid hzm
      replace k1 := Lib.hid k1
      replace k2 := Lib.hid k2
      replace e0 := Lib.hid e0
      clear k0 IS IN IE SQ MX
      go_wp2_with (first
        | (refine wpList_load_row rfl 33 _ rfl (w.heap.size + 1 + 1) rfl 33 (ucells zz).toArray (0, 0) _ k2.out rfl rfl (by rw [S_z]; rfl) ?_; simp only [Act.put, List.setIfInBounds_toArray, List.set_cons_zero, List.set_cons_succ])
        | (refine wpList_store_row rfl 33 _ _ rfl (w.heap.size + 1) (ucells zz).toArray rfl rfl 33 _ k1.out (by rw [S_z]; rfl) (by rw [S_z, ZS]) O_z ?_; simp only [Act.put, List.setIfInBounds_toArray, List.set_cons_zero, List.set_cons_succ]))
      (try simp only [Exit.inBlock, Exit.then])
      refine bodyPost_ret (results_cell_row rfl _ _ (w.heap.size + 1) 33 (ucells zz).toArray (0, 0) _ rfl (setRow_heap _ _ _ _ _ _ k1.out) rfl rfl (by rw [S_z]; rfl)) rfl ?_
      exact ⟨z, hz.out, hzm.out, by rw [hzz.out ()], below_setRow e0.out (by omega) _⟩
end Go.Proofs.YtadnmiedmcckkaaDoor
