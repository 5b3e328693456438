import Derived.Test.YthdjojindijmnaaDoorBlock
import Derived.Test.YthdjojindijmnaaDoorRefQu
import Derived.Test.YthdjojindijmnaaDoorPkF
import Derived.Test.YthdjojindijmnaaDoorPkM
/-
  The document's Block (layer 4).
-/
namespace Go.Proofs.YthdjojindijmnaaDoor
open Go.ChangeShapes Go.WideShapes Go.ChangeAt Go.RowKit Go.Deep

/-- xs[4*k : 4*k+4] of an array. -/
theorem slice4a {w : World} {g k n : Nat} {t : TypeId} (ht : Tryd.prog.underlying t = some (.array (Tryd.prog.arrayLen t) (Tryd.prog.elem t))) (hs : ∀ w, (sizeOf (Tryd.prog.elem t)).run Tryd.prog w = .ok 1 w) (hn : Tryd.prog.arrayLen t = n) (hk : 4 * k + 4 ≤ n) :
    (Instr.sliceAt t (.pointer (some ⟨g, 0, none⟩)) (some (.int .i64 (4 * (k : Int)))) (some (.int .i64 (4 * (k : Int) + 4))) none).run Tryd.prog w = .ok (.slice (some ⟨g, 4 * k, none⟩) 4 (n - 4 * k)) w := by
  rw [run_sliceAt_array_lh w t _ ht .i64 .i64 _ _ (by omega) (by omega) (by rw [hn]; omega)]
  rw [hs]
  have h1 : (4 * (k : Int)).toNat = 4 * k := by omega
  have h2 : (4 * (k : Int) + 4).toNat = 4 * k + 4 := by omega
  have h3 : (⟨g, 0, none⟩ : Addr).add (4 * k * 1) = ⟨g, 4 * k, none⟩ := by unfold Addr.add; split <;> simp_all
  show Result.ok (slicedAt _ _ _ _ _) w = _
  rw [hn, h1, h2]
  unfold slicedAt
  rw [if_neg (by omega), h3, show 4 * k + 4 - 4 * k = 4 by omega]

/-- The worlds of the document's Block: the key, the nonce, the result. -/
def Qw (w wr : World) (ks ns : List UInt8) : Prop :=
  Ext w wr ∧ wr.heap[w.heap.size]? = some (.cells (cellsOf ks).toArray 23 (0, 0)) ∧ wr.heap[w.heap.size + 1]? = some (.cells (cellsOf ns).toArray 73 (0, 0)) ∧ wr.heap[w.heap.size + 1 + 1]? = some (.cells (cellsOf (List.replicate 64 0)).toArray 79 (0, 0))
theorem Qw.below {w wr wr' : World} {ks ns : List UInt8} (h : Qw w wr ks ns) (e : Below (w.heap.size + 1 + 1 + 1) wr wr') : Qw w wr' ks ns :=
  ⟨Below.trans h.1 (e.mono (by omega)), (e.block _ (by omega)).trans h.2.1, (e.block _ (by omega)).trans h.2.2.1, (e.block _ (by omega)).trans h.2.2.2⟩
theorem Qw.size {w wr : World} {ks ns : List UInt8} (h : Qw w wr ks ns) : w.heap.size + 1 + 1 + 1 ≤ wr.heap.size := heap_lt h.2.2.2
theorem Ws.gr {w w' : World} {A : Option Addr} {n g : Nat} {vs : List Nat} (h : Ws w A n vs) (e : w.grownBy w' (some g)) (hg : ∀ a, A = some a → a.block ≠ g) : Ws w' A n vs := ⟨h.1, fun h0 => by
  obtain ⟨b, off, q, hb, hc⟩ := h.2 h0
  refine ⟨b, off, q, Nat.lt_of_lt_of_le hb e.size, fun j hj => ?_⟩
  have hbl := e.block b hb (fun x => by injection x with x; exact hg _ q x)
  rw [← hc j hj]
  simp [World.cell?, hbl]⟩
/-- Block g is 64 bytes. -/
def K64 (w : World) (g : Nat) (xs : List UInt8) : Prop := w.heap[g]? = some (.cells (cellsOf xs).toArray 79 (0, 0)) ∧ xs.length = 64
theorem K64.ext {w w' : World} {g : Nat} {xs : List UInt8} (h : K64 w g xs) (e : Ext w w') : K64 w' g xs := ⟨(e.block g (heap_lt h.1)).trans h.1, h.2⟩
theorem K64.cell {w : World} {g : Nat} {xs : List UInt8} (h : K64 w g xs) {j : Nat} (hj : j < 64) : w.cell? ⟨g, j, none⟩ = some (.int .u8 (bt xs j : Int)) := by
  rw [cell_of_row w g _ _ _ (0, 0) h.1, List.getElem?_toArray]
  exact cellsOf_get (by rw [h.2]; exact hj)
theorem K64.frozen {w : World} {g : Nat} {xs : List UInt8} (h : K64 w g xs) (j : Nat) : w.frozen? ⟨g, j, none⟩ = false := frozen_of_row w g j _ _ h.1
theorem K64.setB {w : World} {g j x : Nat} {xs : List UInt8} (h : K64 w g xs) (hj : j < 64) (hx : x < 256) : K64 (w.setCell ⟨g, j, none⟩ (.int .u8 (x : Int))) g (xs.set j (UInt8.ofNat x)) := by
  refine ⟨?_, by rw [List.length_set]; exact h.2⟩
  rw [setCell_eq_setRow w g j _ _ (0, 0) _ h.1, setRow_heap w g _ _ _ _ h.1]
  congr 2
  have hl := h.2
  apply Array.ext'
  rw [Array.toList_setIfInBounds]
  apply List.ext_getElem?
  intro i
  simp only [List.getElem?_set, cellsOf_len]
  by_cases hi : i < 64
  · rw [cellsOf_get (xs := xs.set j (UInt8.ofNat x)) (by rw [List.length_set]; omega), bt_set (by omega) hx]
    by_cases e : j = i
    · subst e; simp [show j < xs.length by omega]
    · rw [if_neg e, if_neg (Ne.symm e)]
      have := cellsOf_get (xs := xs) (j := i) (by omega)
      simpa using this
  · have h1 : (cellsOf xs)[i]? = none := List.getElem?_eq_none (by rw [cellsOf_len]; omega)
    have h2 : (cellsOf (xs.set j (UInt8.ofNat x)))[i]? = none := List.getElem?_eq_none (by rw [cellsOf_len, List.length_set]; omega)
    rw [if_neg (by omega)]
    simp only [h2]
    simpa using h1
set_option maxRecDepth 100000 in
set_option maxHeartbeats 2000000 in
theorem refBlock_calls {ks ns : List UInt8} {n : Nat} {w : World} (hk : ks.length = 32) (hn : ns.length = 12) (hN : n < 4294967296) :
    Calls Tryd.prog 57 #[.agg (cellsOf ks).toArray, .agg (cellsOf ns).toArray, .int .u32 (n : Int)] w fun e w' => e = .returned (.agg (cellsOf (blockL ks ns n)).toArray) ∧ Ext w w' := by
  have QU1 : Hid (∀ (W : World) (g cap : Nat) (vs : List Nat), Arr W g vs → vs.length = 16 → Calls Tryd.prog 71 #[.slice (some ⟨g, 0, none⟩) 16 cap, .int .i64 0, .int .i64 4, .int .i64 8, .int .i64 12] W fun e w' => e = .returned (.tuple #[]) ∧ Arr w' g (quL vs 0 4 8 12) ∧ W.grownBy w' (some g)) := fun W g cap vs h hl => refQu_calls (a := 0) (b := 4) (c := 8) (d := 12) h hl (by omega) (by omega) (by omega) (by omega)
  have QU2 : Hid (∀ (W : World) (g cap : Nat) (vs : List Nat), Arr W g vs → vs.length = 16 → Calls Tryd.prog 71 #[.slice (some ⟨g, 0, none⟩) 16 cap, .int .i64 1, .int .i64 5, .int .i64 9, .int .i64 13] W fun e w' => e = .returned (.tuple #[]) ∧ Arr w' g (quL vs 1 5 9 13) ∧ W.grownBy w' (some g)) := fun W g cap vs h hl => refQu_calls (a := 1) (b := 5) (c := 9) (d := 13) h hl (by omega) (by omega) (by omega) (by omega)
  have QU3 : Hid (∀ (W : World) (g cap : Nat) (vs : List Nat), Arr W g vs → vs.length = 16 → Calls Tryd.prog 71 #[.slice (some ⟨g, 0, none⟩) 16 cap, .int .i64 2, .int .i64 6, .int .i64 10, .int .i64 14] W fun e w' => e = .returned (.tuple #[]) ∧ Arr w' g (quL vs 2 6 10 14) ∧ W.grownBy w' (some g)) := fun W g cap vs h hl => refQu_calls (a := 2) (b := 6) (c := 10) (d := 14) h hl (by omega) (by omega) (by omega) (by omega)
  have QU4 : Hid (∀ (W : World) (g cap : Nat) (vs : List Nat), Arr W g vs → vs.length = 16 → Calls Tryd.prog 71 #[.slice (some ⟨g, 0, none⟩) 16 cap, .int .i64 3, .int .i64 7, .int .i64 11, .int .i64 15] W fun e w' => e = .returned (.tuple #[]) ∧ Arr w' g (quL vs 3 7 11 15) ∧ W.grownBy w' (some g)) := fun W g cap vs h hl => refQu_calls (a := 3) (b := 7) (c := 11) (d := 15) h hl (by omega) (by omega) (by omega) (by omega)
  have QU5 : Hid (∀ (W : World) (g cap : Nat) (vs : List Nat), Arr W g vs → vs.length = 16 → Calls Tryd.prog 71 #[.slice (some ⟨g, 0, none⟩) 16 cap, .int .i64 0, .int .i64 5, .int .i64 10, .int .i64 15] W fun e w' => e = .returned (.tuple #[]) ∧ Arr w' g (quL vs 0 5 10 15) ∧ W.grownBy w' (some g)) := fun W g cap vs h hl => refQu_calls (a := 0) (b := 5) (c := 10) (d := 15) h hl (by omega) (by omega) (by omega) (by omega)
  have QU6 : Hid (∀ (W : World) (g cap : Nat) (vs : List Nat), Arr W g vs → vs.length = 16 → Calls Tryd.prog 71 #[.slice (some ⟨g, 0, none⟩) 16 cap, .int .i64 1, .int .i64 6, .int .i64 11, .int .i64 12] W fun e w' => e = .returned (.tuple #[]) ∧ Arr w' g (quL vs 1 6 11 12) ∧ W.grownBy w' (some g)) := fun W g cap vs h hl => refQu_calls (a := 1) (b := 6) (c := 11) (d := 12) h hl (by omega) (by omega) (by omega) (by omega)
  have QU7 : Hid (∀ (W : World) (g cap : Nat) (vs : List Nat), Arr W g vs → vs.length = 16 → Calls Tryd.prog 71 #[.slice (some ⟨g, 0, none⟩) 16 cap, .int .i64 2, .int .i64 7, .int .i64 8, .int .i64 13] W fun e w' => e = .returned (.tuple #[]) ∧ Arr w' g (quL vs 2 7 8 13) ∧ W.grownBy w' (some g)) := fun W g cap vs h hl => refQu_calls (a := 2) (b := 7) (c := 8) (d := 13) h hl (by omega) (by omega) (by omega) (by omega)
  have QU8 : Hid (∀ (W : World) (g cap : Nat) (vs : List Nat), Arr W g vs → vs.length = 16 → Calls Tryd.prog 71 #[.slice (some ⟨g, 0, none⟩) 16 cap, .int .i64 3, .int .i64 4, .int .i64 9, .int .i64 14] W fun e w' => e = .returned (.tuple #[]) ∧ Arr w' g (quL vs 3 4 9 14) ∧ W.grownBy w' (some g)) := fun W g cap vs h hl => refQu_calls (a := 3) (b := 4) (c := 9) (d := 14) h hl (by omega) (by omega) (by omega) (by omega)
  have hal : ∀ w, (zeroValue 79).run Tryd.prog w = .ok (.agg (cellsOf (List.replicate 64 0)).toArray) w := fun _ => by kernel_rfl
  have SL := startL_len ks ns n
  have SK : Hid (∀ j, j < 8 → wd (startL ks ns n) (4 + j) = part4 ks j) := fun j hj => by
    have h : j = 0 ∨ j = 1 ∨ j = 2 ∨ j = 3 ∨ j = 4 ∨ j = 5 ∨ j = 6 ∨ j = 7 := by omega
    rcases h with rfl | rfl | rfl | rfl | rfl | rfl | rfl | rfl <;> rfl
  have SN : Hid (∀ j, j < 3 → wd (startL ks ns n) (13 + j) = part4 ns j) := fun j hj => by
    have h : j = 0 ∨ j = 1 ∨ j = 2 := by omega
    rcases h with rfl | rfl | rfl <;> rfl
  have S12 : Hid (wd (startL ks ns n) 12 = n) := rfl
  have S4 : Hid ((startL ks ns n).take 4 = fourL) := rfl
  have SLT := Lib.hid (start_lt (ks := ks) (ns := ns) hN)
  have hBL : Hid (∀ _ : Unit, blockL ks ns n = bytesL (sumW (drN (startL ks ns n) 10) (startL ks ns n))) := fun _ => rfl
  generalize startL ks ns n = S at *
  generalize blockL ks ns n = BL at *
  have Q0 : Hid (∀ cs, Qw w ((((w.alloc (Obj.cells (cellsOf ks).toArray 23)).alloc (Obj.cells (cellsOf ns).toArray 73)).alloc (Obj.cells (cellsOf (List.replicate 64 0)).toArray 79)).alloc (Obj.cells cs 74)) ks ns) := fun cs =>
    ⟨((((Ext.refl w).alloc _).alloc _).alloc _).alloc _, heap_a40 _ _ _ _ _, heap_a41 _ _ _ _ _, heap_a42 _ _ _ _ _⟩
  have OW0 : Hid (∀ W : World, OwnW W.heap.size (W.alloc (Obj.cells (wcells fourL).toArray 74)) (some ⟨W.heap.size, 0, none⟩) 4 4 fourL) := fun W => World.ownsRow_lit (e := 74) (size := 1) W (wcells fourL).toArray 4 (Nat.le_refl _) (by decide) rfl
  go_enter Tryd.func57, Tryd.ntmps57
  go_wp2_with fail
  go_loopw [7, 8] (fun v i wr => ∃ (k : Nat) (D : Option Addr) (cc : Nat), k ≤ 8 ∧ i = .int .i64 k ∧ v = .slice D (4 + k) cc ∧ OwnW (w.heap.size + 1 + 1 + 1) wr D (4 + k) cc (S.take (4 + k)) ∧ Qw w wr ks ns) (fun _ i _ => 8 - (intOf i).toNat)
  case atStart =>
    refine ⟨0, _, _, Nat.zero_le _, rfl, rfl, ?_, Q0.out _⟩
    have h9 := OW0.out (((w.alloc (Obj.cells (cellsOf ks).toArray 23)).alloc (Obj.cells (cellsOf ns).toArray 73)).alloc (Obj.cells (cellsOf (List.replicate 64 0)).toArray 79))
    rw [size_alloc, size_alloc, size_alloc] at h9
    rw [Nat.add_zero, S4.out]
    exact h9
  case round =>
    obtain ⟨k, D, cc, hk8, rfl, rfl, ho, qw⟩ := hrel
    clear Q0 OW0
    by_cases hlt : k < 8
    · have hK := qw.2.1
      have hsl := fun w' : World => slice4a (w := w') (g := w.heap.size) (k := k) (t := 23) rfl (fun _ => rfl) rfl (show 4 * k + 4 ≤ 32 by omega)
      have HC := Lib.hid (refOfLow_calls (m := 4) (Bs.part hK (o := 4 * k) (n := 4) (c := 32 - 4 * k) (by omega) (by omega) (by omega)) (by omega) (by omega) (by decide))
      rw [List.take_take, Nat.min_self] at HC
      have pl := part4_lt ks k
      have hcv : IntKind.u32.wrap (part4 ks k : Int) = (part4 ks k : Int) := by rw [IntKind.wrap_u32]; omega
      have TK := Lib.hid (take_wd (vs := S) (k := 4 + k) (by omega))
      rw [SK.out k hlt] at TK
      change Hid (Calls _ _ _ _ fun e w' => e = .returned (.int .u64 (part4 ks k : Int)) ∧ w' = wr) at HC
      replace ho := Lib.hid ho
      replace qw := Lib.hid qw
      generalize part4 ks k = pk at *
      go_wp2_with fail
      refine HC.out.mono ?_
      rintro e w1 ⟨rfl, rfl⟩
      go_wp2_with (at_builtin; (with_reducible refine wpList_append_ws rfl (B := w.heap.size + 1 + 1 + 1) (s := .tmp 19) (x := .tmp 28) rfl rfl rfl (ho.out.ext ((Ext.refl _).alloc _)) (Ws.one _ _ _) (by omega) (Nat.le_trans qw.out.size (by rw [size_alloc]; omega)) ?_); intro A4 c4 w4 o4 g4 b4; replace o4 := Lib.hid o4; replace b4 := Lib.hid b4; clear g4; simp only [Act.put, List.setIfInBounds_toArray, List.set_cons_zero, List.set_cons_succ])
      refine ⟨⟨k + 1, A4, c4, by omega, by go_num, rfl, ?_, (qw.out.below ((Ext.refl _).alloc _ |>.mono qw.out.size)).below b4.out⟩, by simp [intOf]; omega⟩
      have h9 := o4.out
      rw [TK.out] at h9
      exact h9
    · obtain rfl : k = 8 := by omega
      rw [show ((8 : Nat) : Int) = 8 from rfl]
      rw [show (4 + 8 : Nat) = 12 from rfl] at ho ⊢
      have TK := Lib.hid (take_wd (vs := S) (k := 12) (by omega))
      rw [S12.out] at TK
      replace ho := Lib.hid ho
      replace qw := Lib.hid qw
      go_upto_region 7 with (at_builtin; (with_reducible refine wpList_append_ws rfl (B := w.heap.size + 1 + 1 + 1) (s := .tmp 30) (x := .tmp 32) rfl rfl rfl (ho.out.ext ((Ext.refl _).alloc _)) (Ws.one _ _ _) (by omega) (Nat.le_trans qw.out.size (by rw [size_alloc]; omega)) ?_); intro A4 c4 w4 o4 g4 b4; replace o4 := Lib.hid o4; replace b4 := Lib.hid b4; clear g4; simp only [Act.put, List.setIfInBounds_toArray, List.set_cons_zero, List.set_cons_succ])
      have Q4 := Lib.hid ((qw.out.below ((Ext.refl _).alloc _ |>.mono qw.out.size)).below b4.out)
      rw [TK.out] at o4
      clear ho qw b4 TK
      rw [show (12 + 1 : Nat) = 13 from rfl] at o4 ⊢
      go_wp2_with fail
      go_loopw [7, 9] (fun v i wr => ∃ (k : Nat) (D : Option Addr) (cc : Nat), k ≤ 3 ∧ i = .int .i64 k ∧ v = .slice D (13 + k) cc ∧ OwnW (w.heap.size + 1 + 1 + 1) wr D (13 + k) cc (S.take (13 + k)) ∧ Qw w wr ks ns) (fun _ i _ => 3 - (intOf i).toNat)
      case atStart => exact ⟨0, _, _, Nat.zero_le _, rfl, rfl, o4.out, Q4.out⟩
      case round =>
        obtain ⟨k, D, cc, hk3, rfl, rfl, ho, qw⟩ := hrel
        clear o4 Q4
        by_cases hlt : k < 3
        · have hK := qw.2.2.1
          have hsl := fun w' : World => slice4a (w := w') (g := (w.heap.size + 1)) (k := k) (t := 73) rfl (fun _ => rfl) rfl (show 4 * k + 4 ≤ 12 by omega)
          have HC := Lib.hid (refOfLow_calls (m := 4) (Bs.part hK (o := 4 * k) (n := 4) (c := 12 - 4 * k) (by omega) (by omega) (by omega)) (by omega) (by omega) (by decide))
          rw [List.take_take, Nat.min_self] at HC
          have pl := part4_lt ns k
          have hcv : IntKind.u32.wrap (part4 ns k : Int) = (part4 ns k : Int) := by rw [IntKind.wrap_u32]; omega
          have TK := Lib.hid (take_wd (vs := S) (k := 13 + k) (by omega))
          rw [SN.out k hlt] at TK
          change Hid (Calls _ _ _ _ fun e w' => e = .returned (.int .u64 (part4 ns k : Int)) ∧ w' = wr) at HC
          replace ho := Lib.hid ho
          replace qw := Lib.hid qw
          generalize part4 ns k = pk at *
          go_wp2_with fail
          refine HC.out.mono ?_
          rintro e w1 ⟨rfl, rfl⟩
          go_wp2_with (at_builtin; (with_reducible refine wpList_append_ws rfl (B := w.heap.size + 1 + 1 + 1) (s := .tmp 38) (x := .tmp 47) rfl rfl rfl (ho.out.ext ((Ext.refl _).alloc _)) (Ws.one _ _ _) (by omega) (Nat.le_trans qw.out.size (by rw [size_alloc]; omega)) ?_); intro A4 c4 w4 o4 g4 b4; replace o4 := Lib.hid o4; replace b4 := Lib.hid b4; clear g4; simp only [Act.put, List.setIfInBounds_toArray, List.set_cons_zero, List.set_cons_succ])
          refine ⟨⟨k + 1, A4, c4, by omega, by go_num, rfl, ?_, (qw.out.below ((Ext.refl _).alloc _ |>.mono qw.out.size)).below b4.out⟩, by simp [intOf]; omega⟩
          have h9 := o4.out
          rw [TK.out] at h9
          exact h9
        · obtain rfl : k = 3 := by omega
          rw [show ((3 : Nat) : Int) = 3 from rfl]
          have hS : S.take (13 + 3) = S := List.take_of_length_le (by omega)
          rw [hS] at ho
          rw [show (13 + 3 : Nat) = 16 from rfl] at ho ⊢
          clear hS
          replace ho := Lib.hid ho
          replace qw := Lib.hid qw
          have V0 := Lib.hid ho.out.ws
          go_upto_region 12 with (at_builtin; (with_reducible refine wpList_append_ws rfl (B := wr.heap.size) (s := .tmp 49) (x := .tmp 50) rfl rfl rfl (OwnW.empty wr _ (Nat.le_refl _)) (V0.out.ext ((Ext.refl _).alloc _)) (by omega) (by rw [size_alloc]; omega) ?_); intro A5 c5 w5 o5 g5 b5; clear g5; simp only [Nat.zero_add, List.nil_append] at o5; simp only [Act.put, List.setIfInBounds_toArray, List.set_cons_zero, List.set_cons_succ])
          obtain ⟨g, rfl, hg, A5'⟩ := o5.arr (by omega) (fun i hi => SLT.out i hi)
          have E5 : Ext wr w5 := Below.trans ((Ext.refl wr).alloc _) b5
          have Q5 := Lib.hid (qw.out.below (E5.mono qw.out.size))
          have V5 := Lib.hid (V0.out.ext E5)
          have hD : Hid (∀ a, D = some a → a.block ≠ g) := fun a ha => by
            obtain ⟨b, off, q, hb, _⟩ := V0.out.2 (by omega)
            rw [ha] at q
            injection q with q
            subst q
            show b ≠ g
            omega
          have hg3 : Hid (w.heap.size + 1 + 1 + 1 ≤ g) := Nat.le_trans qw.out.size hg
          replace hg := Lib.hid hg
          replace hal := Lib.hid hal
          replace A5' := Lib.hid A5'
          clear o5 b5 E5 qw V0 ho
          rw [Nat.zero_add]
          go_wp2_with fail
          go_loopw [11] (fun i wr => ∃ k : Nat, k ≤ 10 ∧ i = .int .i64 k ∧ Arr wr g (drN S k) ∧ Ws wr D 16 S ∧ Qw w wr ks ns) (fun i _ => 10 - (intOf i).toNat)
          case atStart => exact ⟨0, Nat.zero_le _, rfl, A5'.out, V5.out, Q5.out⟩
          case round =>
            obtain ⟨k, hk10, rfl, AK, VK, QK⟩ := hrel
            clear A5' V5 Q5
            by_cases hlt : k < 10
            · have A0 := Lib.hid AK
              have L0 := Lib.hid (drN_len SL k)
              have hdr : Hid (∀ _ : Unit, drN S (k + 1) = drL (drN S k)) := fun _ => rfl
              generalize drN S k = v0 at *
              replace VK := Lib.hid VK
              replace QK := Lib.hid QK
              have G0 : Hid (wr.grownBy wr (some g)) := gr_ext (Ext.refl _) _
              clear AK
              go_wp2_with fail
              refine (QU1.out _ g c5 v0 A0.out L0.out).mono ?_
              rintro e w1' ⟨rfl, A1, G1⟩
              replace A1 := Lib.hid A1
              replace G1 := Lib.hid (gr_trans G0.out G1)
              have L1 := Lib.hid ((quL_len v0 0 4 8 12).trans L0.out)
              generalize HV1 : quL v0 0 4 8 12 = v1 at A1 L1
              replace HV1 := Lib.hid (fun _ : Unit => HV1)
              clear A0
              go_wp2_with fail
              refine (QU2.out _ g c5 v1 A1.out L1.out).mono ?_
              rintro e w2' ⟨rfl, A2, G2⟩
              replace A2 := Lib.hid A2
              replace G2 := Lib.hid (gr_trans G1.out G2)
              have L2 := Lib.hid ((quL_len v1 1 5 9 13).trans L1.out)
              generalize HV2 : quL v1 1 5 9 13 = v2 at A2 L2
              replace HV2 := Lib.hid (fun _ : Unit => HV2)
              clear A1
              go_wp2_with fail
              refine (QU3.out _ g c5 v2 A2.out L2.out).mono ?_
              rintro e w3' ⟨rfl, A3, G3⟩
              replace A3 := Lib.hid A3
              replace G3 := Lib.hid (gr_trans G2.out G3)
              have L3 := Lib.hid ((quL_len v2 2 6 10 14).trans L2.out)
              generalize HV3 : quL v2 2 6 10 14 = v3 at A3 L3
              replace HV3 := Lib.hid (fun _ : Unit => HV3)
              clear A2
              go_wp2_with fail
              refine (QU4.out _ g c5 v3 A3.out L3.out).mono ?_
              rintro e w4' ⟨rfl, A4, G4⟩
              replace A4 := Lib.hid A4
              replace G4 := Lib.hid (gr_trans G3.out G4)
              have L4 := Lib.hid ((quL_len v3 3 7 11 15).trans L3.out)
              generalize HV4 : quL v3 3 7 11 15 = v4 at A4 L4
              replace HV4 := Lib.hid (fun _ : Unit => HV4)
              clear A3
              go_wp2_with fail
              refine (QU5.out _ g c5 v4 A4.out L4.out).mono ?_
              rintro e w5' ⟨rfl, A5, G5⟩
              replace A5 := Lib.hid A5
              replace G5 := Lib.hid (gr_trans G4.out G5)
              have L5 := Lib.hid ((quL_len v4 0 5 10 15).trans L4.out)
              generalize HV5 : quL v4 0 5 10 15 = v5 at A5 L5
              replace HV5 := Lib.hid (fun _ : Unit => HV5)
              clear A4
              go_wp2_with fail
              refine (QU6.out _ g c5 v5 A5.out L5.out).mono ?_
              rintro e w6' ⟨rfl, A6, G6⟩
              replace A6 := Lib.hid A6
              replace G6 := Lib.hid (gr_trans G5.out G6)
              have L6 := Lib.hid ((quL_len v5 1 6 11 12).trans L5.out)
              generalize HV6 : quL v5 1 6 11 12 = v6 at A6 L6
              replace HV6 := Lib.hid (fun _ : Unit => HV6)
              clear A5
              go_wp2_with fail
              refine (QU7.out _ g c5 v6 A6.out L6.out).mono ?_
              rintro e w7' ⟨rfl, A7, G7⟩
              replace A7 := Lib.hid A7
              replace G7 := Lib.hid (gr_trans G6.out G7)
              have L7 := Lib.hid ((quL_len v6 2 7 8 13).trans L6.out)
              generalize HV7 : quL v6 2 7 8 13 = v7 at A7 L7
              replace HV7 := Lib.hid (fun _ : Unit => HV7)
              clear A6
              go_wp2_with fail
              refine (QU8.out _ g c5 v7 A7.out L7.out).mono ?_
              rintro e w8' ⟨rfl, A8, G8⟩
              replace A8 := Lib.hid A8
              replace G8 := Lib.hid (gr_trans G7.out G8)
              have L8 := Lib.hid ((quL_len v7 3 4 9 14).trans L7.out)
              generalize HV8 : quL v7 3 4 9 14 = v8 at A8 L8
              replace HV8 := Lib.hid (fun _ : Unit => HV8)
              clear A7
              go_wp2_with fail
              refine ⟨⟨k + 1, by omega, by go_num, ?_, VK.out.gr G8.out hD.out, ?_⟩, by simp [intOf]; omega⟩
              · have : drL v0 = v8 := by unfold drL; rw [HV1.out (), HV2.out (), HV3.out (), HV4.out (), HV5.out (), HV6.out (), HV7.out (), HV8.out ()]
                rw [hdr.out (), this]
                exact A8.out
              · exact QK.out.below ⟨G8.out.os, G8.out.tape, G8.out.output, G8.out.size, fun i hi => G8.out.block i (Nat.lt_of_lt_of_le hi QK.out.size) (fun q => by injection q with q; have := hg3.out; omega)⟩
            · obtain rfl : k = 10 := by omega
              rw [show ((10 : Nat) : Int) = 10 from rfl]
              clear QU1 QU2 QU3 QU4 QU5 QU6 QU7 QU8 hlt hk10
              replace AK := Lib.hid AK
              replace VK := Lib.hid VK
              replace QK := Lib.hid QK
              refine wp_gen (fun W => Arr W g (drN S 10) ∧ Ws W D 16 S ∧ Qw w W ks ns) ⟨AK.out, VK.out, QK.out⟩ ?_
              rintro w7 ⟨AK', VK', QK'⟩
              clear AK VK QK
              have AK := Lib.hid AK'
              have VK := Lib.hid VK'
              have QK := Lib.hid QK'
              clear AK' VK' QK'
              have UL := drN_len SL 10
              have hRM := hBL.out ()
              clear hBL
              generalize drN S 10 = U at *
              have RN := sumW_len U S
              have ML : BL.length = 64 := by rw [hRM, bytesL_len, RN]
              have RB : Hid (∀ j, j < 64 → bt BL j = add32 (wd S (j / 4)) (wd U (j / 4)) / 256 ^ (j % 4) % 256) := fun j hj => by
                rw [hRM, bt_bytesL (by rw [RN]; omega), wd_sumW (by omega)]
                unfold add32
                rw [Nat.add_comm]
              clear hRM RN
              obtain ⟨db, doff, rfl, hdb, hdc⟩ := VK.out.2 (by omega)
              have CV : Hid (∀ w', Ext w7 w' → ∀ a, a < 16 → w'.cell? ⟨g, a, none⟩ = some (.int .u32 (wd U a : Int)) ∧ w'.cell? ⟨db, doff + a, none⟩ = some (.int .u32 (wd S a : Int))) := fun w' e a ha => And.intro ((AK.out.ext e).2 a (by omega)).1 ((e.cell hdb).trans (hdc a ha))
              have Z5 : Hid (w7.heap[w.heap.size + 1 + 1]? = some (.cells (cellsOf (List.replicate 64 0)).toArray 79 (0, 0))) := QK.out.2.2.2
              have E5 : Hid (Ext w w7) := QK.out.1
              have hal' := hal.out
              have zl : (List.replicate 64 (0 : UInt8)).length = 64 := by simp
              clear hal AK VK QK hdb hdc hD hg hg3 SK SN S12 S4 SLT
              generalize List.replicate 64 (0 : UInt8) = zs at *
              have kn : Hid (K64 (w7.alloc (Obj.cells (cellsOf zs).toArray 79)) w7.heap.size zs) := ⟨heap_alloc_new _ _, zl⟩
              have oz : Hid (w.heap.size + 1 + 1 < w7.heap.size) := heap_lt Z5.out
              go_wp2_with fail
              obtain ⟨o, ho⟩ : ∃ o, o = w7.heap.size := ⟨_, rfl⟩
              rw [← ho] at kn ⊢
              replace ho := Lib.hid ho
              go_loopw [13] (fun v wx => ∃ (k : Nat) (ys : List UInt8), k ≤ 64 ∧ v = .int .i64 (k : Int) ∧ ys.length = 64 ∧ (∀ j, j < k → bt ys j = bt BL j) ∧ Ext w7 wx ∧ K64 wx o ys) (fun v _ => 64 - (intOf v).toNat)
              case atStart => exact ⟨0, zs, Nat.zero_le _, rfl, zl, fun j hj => absurd hj (by omega), (Ext.refl _).alloc _, kn.out⟩
              case round =>
                obtain ⟨k, ys, hk', rfl, yl, hv, he, ky⟩ := hrel
                clear kn
                by_cases hlt : k < 64
                · obtain ⟨a, ha⟩ : ∃ a, a = k / 4 := ⟨_, rfl⟩
                  obtain ⟨b, hb⟩ : ∃ b, b = k % 4 := ⟨_, rfl⟩
                  obtain ⟨sh, hs⟩ : ∃ sh, sh = 8 * b := ⟨_, rfl⟩
                  have b4 : b < 4 := by omega
                  have k64 : k < 64 := hlt
                  have f1 : Int.tdiv (k : Int) 4 = (a : Int) := by rw [Int.tdiv_eq_ediv_of_nonneg (by omega)]; omega
                  have f2 : Int.tmod (k : Int) 4 = (b : Int) := by rw [Int.tmod_eq_emod_of_nonneg (by omega)]; omega
                  have f3 : (8 : Int) * (b : Int) = (sh : Int) := by omega
                  have a16 : a < 16 := by omega
                  have a16' : (a : Int) < 16 := by omega
                  have a0 : (0 : Int) ≤ (a : Int) := by omega
                  have s32 : (sh : Int) ≤ 32 := by omega
                  have fw1 : IntKind.i64.wrap (a : Int) = (a : Int) := IntWalk.i64_in _ (by omega)
                  have fw2 : IntKind.i64.wrap (sh : Int) = (sh : Int) := IntWalk.i64_in _ (by omega)
                  have at1 : ((a : Int)).toNat = a := by omega
                  have u1 : IntKind.u32.wrap ((wd S a : Int) + (wd U a : Int)) = (add32 (wd S a) (wd U a) : Int) := u32_add
                  have KEEP : Hid (∀ w', Ext wr w' → w'.cell? ⟨g, a, none⟩ = some (.int .u32 (wd U a : Int)) ∧ w'.cell? ⟨db, doff + a, none⟩ = some (.int .u32 (wd S a : Int))) := fun w' e => CV.out w' (he.trans e) a a16
                  have yb : bt BL k = add32 (wd S a) (wd U a) / 2 ^ sh % 256 := by
                    rw [RB.out k hlt, ← ha, ← hb, hs, show (256 : Nat) = 2 ^ 8 from rfl, ← Nat.pow_mul]
                  generalize add32 (wd S a) (wd U a) = T at *
                  obtain ⟨y, hy⟩ : ∃ y, y = T / 2 ^ sh := ⟨_, rfl⟩
                  have q1 : Op.shift .shr .u32 (T : Int) .i64 (sh : Int) = pure (.int .u32 (y : Int)) := by
                    have := shift_shr .u32 .i64 (T : Int) (sh : Int) (by omega) (by show (sh : Int) ≤ 32; exact s32)
                    rw [this, hy]
                    simp
                  have y8 : IntKind.u8.wrap (y : Int) = ((y % 256 : Nat) : Int) := by rw [IntKind.wrap_u8]; omega
                  have y8' : (y : Int) % 256 = ((y % 256 : Nat) : Int) := by omega
                  rw [← hy] at yb
                  have z256 : y % 256 < 256 := Nat.mod_lt _ (by decide)
                  generalize y % 256 = z at *
                  have g1 := ky.cell hlt
                  have g2 := ky.frozen k
                  have ik : (k : Int) < 64 := by omega
                  have ik0 : (0 : Int) ≤ (k : Int) := by omega
                  replace yb := Lib.hid yb
                  replace hy := Lib.hid hy
                  replace ha := Lib.hid ha
                  replace hb := Lib.hid hb
                  replace hs := Lib.hid hs
                  replace hv := Lib.hid hv
                  replace he := Lib.hid he
                  replace ky := Lib.hid ky
                  have z256' := Lib.hid z256
                  clear z256
                  go_wp2_with fail
                  refine wp_region_seqZ (R := Ext) Ext.refl (fun _ _ _ => Ext.trans) 18 [0, 1, 2, 3, 4, 5, 6, 7, 8, 9, 10, 11, 12, 13, 14, 15, 16, 17, 18] [18] [(0, 77, 16384), (0, 78, 256), (0, 79, 16384), (4, 80, 604462909807314587353088), (10, 81, 1511157274518286468382720), (16, 82, 2417851639229258349412352), (0, 83, 2048), (0, 84, 16384), (128, 85, 19342813113834066795298816), (320, 86, 48357032784585166988247040), (512, 87, 77371252455336267181195264), (1056, 88, 159578208189131051061215232), (0, 89, 16384), (4096, 90, 618970019642690137449562112), (8192, 91, 1237940039285380274899124224), (18432, 92, 2785365088392105618523029504), (32768, 93, 4951760157141521099596496896), (131071, 94, 151115727451828646846464), (262143, 0, 29710560942849126597578981376)] (by kernel_rfl) (by kernel_rfl) (by kernel_rfl) rfl (by kernel_rfl) (by kernel_rfl) (by kernel_rfl) (fun _ _ d _ _ h => by cases d <;> exact h) ?_
                  repeat (refine seqZ_read _ (fun w' e => KEEP.out w' ((Ext.refl _).drew.trans e)) _ (v := ?_) rfl rfl (by rfl) ?_ ?_; rotate_left; (· intro w' hF; go_simp; (try with_reducible rfl)); simp only [Act.put, List.setIfInBounds_toArray, List.set_cons_zero, List.set_cons_succ])
                  refine seqZ_do _ rfl rfl (by rfl) (fun K1 hK1 => ?_)
                  go_simp
                  refine hK1.out _ _ (.inl rfl) ?_
                  clear hK1 K1
                  refine seqZ_done ?_
                  go_wp2_with fail
                  have hz : (T : Int) / 2 ^ sh % 256 = (z : Int) := by
                    rw [← y8', hy.out, Int.natCast_ediv, Int.natCast_pow]; rfl
                  rw [hz]
                  refine ⟨⟨k + 1, ys.set k (UInt8.ofNat z), by omega, by go_num, by rw [List.length_set]; exact yl, fun j hj => ?_, Ext.setCell he.out.drew (show w7.heap.size ≤ o by rw [ho.out]; exact Nat.le_refl _) _, K64.ext (ky.out.setB hlt z256'.out) (Ext.refl _).drew⟩, by simp [intOf]; omega⟩
                  rw [bt_set (by omega) z256'.out]
                  by_cases e : j = k
                  · rw [if_pos e, e]; exact yb.out.symm
                  · rw [if_neg e]; exact hv.out j (by omega)
                · obtain rfl : k = 64 := by omega
                  have hy : ys = BL := list_bt (by rw [yl, ML]) fun j hj => hv j (by omega)
                  subst hy
                  have KK := Lib.hid ((he.block _ oz.out).trans Z5.out)
                  have EE : Hid (Ext w wr) := E5.out.trans he
                  have RS : (cellsOf ys).toArray.size = 64 := by simp [cellsOf_len, yl]
                  have R1 := cellsOf_one ys
                  have ZS : (cellsOf zs).toArray.size = 64 := by simp [cellsOf_len, zl]
                  replace ky := Lib.hid ky
                  clear hv he RB CV Z5 E5
                  go_wp2_with (first
                    | (refine wpList_load_row rfl 79 _ rfl o rfl 79 (cellsOf ys).toArray (0, 0) _ ky.out.1 rfl rfl (by rw [RS]; rfl) ?_; simp only [Act.put, List.setIfInBounds_toArray, List.set_cons_zero, List.set_cons_succ])
                    | refine wpList_store_row rfl 79 _ _ rfl (w.heap.size + 1 + 1) (cellsOf ys).toArray rfl rfl 79 _ KK.out (by rw [RS]; rfl) (by rw [RS, ZS]) R1 ?_)
                  (try simp only [Exit.inBlock, Exit.then])
                  refine bodyPost_ret (results_cell_row rfl _ _ (w.heap.size + 1 + 1) 79 (cellsOf ys).toArray (0, 0) _ rfl (setRow_heap _ _ _ _ _ _ KK.out) rfl rfl (by rw [RS]; rfl)) rfl ?_
                  exact ⟨rfl, below_setRow EE.out (by omega) _⟩
end Go.Proofs.YthdjojindijmnaaDoor
