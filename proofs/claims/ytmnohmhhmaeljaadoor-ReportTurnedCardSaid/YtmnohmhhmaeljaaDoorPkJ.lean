import Derived.Test.YtmnohmhhmaeljaaDoorPkK
import Derived.Recover
import Derived.WalkLawsBesides
import Derived.Test.YtmnohmhhmaeljaaDoorWords
import Derived.Test.YtmnohmhhmaeljaaDoorFillS
import Derived.Test.YtmnohmhhmaeljaaDoorSameL
import Derived.Test.YtmnohmhhmaeljaaDoorMac
section
/-
  A literal of one byte. No conditions.
-/
namespace Go.Proofs.YtmnohmhhmaeljaaDoor
open Go.ChangeShapes Go.WideShapes Go.ChangeAt Go.RowKit Go.Deep

theorem Bs.lit8 (w : World) (t : TypeId) (xs : List UInt8) (cs : Array Value) (hcs : cs = (xs.map fun x => Value.int .u8 (x.toNat : Int)).toArray) (n : Nat) (hn : xs.length = n) (hm : n ≤ 1000000) :
    Bs (w.alloc (.cells cs t)) (some ⟨w.heap.size, 0, none⟩) n n xs := by
  subst hcs
  have hr := World.rowIs_alloc w (xs.map fun x => Value.int .u8 (x.toNat : Int)).toArray t (fun i => .int .u8 (bt xs i : Int)) (fun i hi => by
    have hi' : i < xs.length := by simpa using hi
    simp [bt, List.getD, hi'])
  refine ⟨hn, Nat.le_refl _, by unfold maxLen; omega, fun _ => ⟨w.heap.size, 0, rfl, by simp, fun j hj => ?_⟩⟩
  rw [Nat.zero_add]
  exact hr.cell (by simp; omega)
theorem Bs.one8 (w : World) (t : TypeId) (x : UInt8) (v : Int) (hv : v = (x.toNat : Int)) : Bs (w.alloc (.cells #[.int .u8 v] t)) (some ⟨w.heap.size, 0, none⟩) 1 1 [x] :=
  Bs.lit8 w t [x] _ (by rw [hv]; rfl) 1 rfl (by omega)
end Go.Proofs.YtmnohmhhmaeljaaDoor
end

section
/-
  report.validBeside, oneByte, sized, demand, errnoOf; the document's Right.
-/
namespace Go.Proofs.YtmnohmhhmaeljaaDoor
open Go.ChangeShapes Go.WideShapes Go.ChangeAt Go.RowKit Go.Deep
set_option maxRecDepth 100000

set_option maxHeartbeats 4000000 in
theorem beside17_calls {w : World} {id whose : Int} {A : Option Addr} {n c : Nat} {op : List UInt8} {st : List Value} :
    Calls Tryd.prog 44 #[.agg (rpC id whose A n c op st).toArray] w fun e w' => e = .returned (.bool (besideB id whose n)) ∧ Ext w w' := by
  have c0 : Hid ((rpC id whose A n c op st)[0]? = some (.int .i64 id)) := rfl
  have c1 : Hid ((rpC id whose A n c op st)[1]? = some (.int .i64 whose)) := rfl
  have c2 : Hid ((rpC id whose A n c op st)[2]? = some (.slice A n c)) := rfl
  have hR : Hid (besideB id whose n = true ↔ (0 ≤ id ∧ id ≤ 1000000) ∧ (0 ≤ whose ∧ whose ≤ 7) ∧ n ≤ 250) := besideB_iff
  generalize besideB id whose n = ok at *
  generalize rpC id whose A n c op st = L at *
  have B0 : Hid (Cb (w.alloc (Obj.cells L.toArray 28)) w.heap.size 28 L ∧ Ext w (w.alloc (Obj.cells L.toArray 28))) := ⟨Cb.new _ _ _, (Ext.refl w).alloc _⟩
  go_enter Tryd.func44, Tryd.ntmps44
  go_upto_region 1 with fail
  refine wp_gen (fun W => Cb W w.heap.size 28 L ∧ Ext w W) B0.out ?_
  clear B0
  rintro w0 ⟨k0, x0⟩
  have b0 := k0.cell c0.out
  have b1 := k0.cell c1.out
  have b2 := k0.cell c2.out
  replace x0 := Lib.hid x0
  clear k0 c0 c1 c2
  by_cases h0 : ¬ (0 ≤ id)
  · have g : Hid (ok = false) := Bool.eq_false_iff.mpr fun q => by have := hR.out.1 q; omega
    have d00 : decide ((0 : Int) ≤ id) = false := decide_eq_false (by omega)
    clear hR
    go_wp2_with fail
    go_ret
    exact ⟨by rw [g.out]; rfl, x0.out⟩
  replace h0 := Classical.not_not.1 h0
  have d00 : decide ((0 : Int) ≤ id) = true := decide_eq_true (by omega)
  by_cases h1 : ¬ (id ≤ 1000000)
  · have g : Hid (ok = false) := Bool.eq_false_iff.mpr fun q => by have := hR.out.1 q; omega
    have d10 : decide (id ≤ 1000000) = false := decide_eq_false (by omega)
    clear hR
    go_wp2_with fail
    go_ret
    exact ⟨by rw [g.out]; rfl, x0.out⟩
  replace h1 := Classical.not_not.1 h1
  have d10 : decide (id ≤ 1000000) = true := decide_eq_true (by omega)
  by_cases h2 : ¬ (0 ≤ whose)
  · have g : Hid (ok = false) := Bool.eq_false_iff.mpr fun q => by have := hR.out.1 q; omega
    have d20 : decide ((0 : Int) ≤ whose) = false := decide_eq_false (by omega)
    clear hR
    go_wp2_with fail
    go_ret
    exact ⟨by rw [g.out]; rfl, x0.out⟩
  replace h2 := Classical.not_not.1 h2
  have d20 : decide ((0 : Int) ≤ whose) = true := decide_eq_true (by omega)
  by_cases h3 : ¬ (whose ≤ 7)
  · have g : Hid (ok = false) := Bool.eq_false_iff.mpr fun q => by have := hR.out.1 q; omega
    have d30 : decide (whose ≤ 7) = false := decide_eq_false (by omega)
    have d31 : decide (whose < 8) = false := decide_eq_false (by omega)
    clear hR
    go_wp2_with fail
    go_ret
    exact ⟨by rw [g.out]; rfl, x0.out⟩
  replace h3 := Classical.not_not.1 h3
  have d30 : decide (whose ≤ 7) = true := decide_eq_true (by omega)
  have d31 : decide (whose < 8) = true := decide_eq_true (by omega)
  by_cases h4 : ¬ (n ≤ 250)
  · have g : Hid (ok = false) := Bool.eq_false_iff.mpr fun q => by have := hR.out.1 q; omega
    have d40 : decide ((n : Int) ≤ 250) = false := decide_eq_false (by omega)
    clear hR
    go_wp2_with fail
    go_ret
    exact ⟨by rw [g.out]; rfl, x0.out⟩
  replace h4 := Classical.not_not.1 h4
  have d40 : decide ((n : Int) ≤ 250) = true := decide_eq_true (by omega)
  have g : Hid (ok = true) := hR.out.2 ⟨⟨h0, h1⟩, ⟨h2, h3⟩, h4⟩
  clear hR
  go_wp2_with fail
  go_ret
  exact ⟨by rw [g.out]; rfl, x0.out⟩
set_option maxHeartbeats 4000000 in
theorem right17_calls {w : World} {id whose : Int} {A : Option Addr} {n c : Nat} {op : List UInt8} {s : Sm} (lo : op.length = 32) (oks : s.ok) :
    Calls Tryd.prog 48 #[.agg (rpC id whose A n c op s.C).toArray] w fun e w' => e = .returned (.bool (besideB id whose n && s.valid)) ∧ Ext w w' := by
  have TI : Hid (∀ (W : World), Calls Tryd.prog 92 #[.int .i64 id] W fun e w' => e = .returned (.bool (upB id 1000000)) ∧ Ext W w') := fun W => rTime_calls
  have RI : Hid (∀ (W : World), Calls Tryd.prog 93 #[.agg s.C.toArray] W fun e w' => e = .returned (.bool s.valid) ∧ Ext W w') := fun W => right16_calls
  have c0 : Hid ((rpC id whose A n c op s.C)[0]? = some (.int .i64 id)) := rfl
  have c1 : Hid ((rpC id whose A n c op s.C)[1]? = some (.int .i64 whose)) := rfl
  have c2 : Hid ((rpC id whose A n c op s.C)[2]? = some (.slice A n c)) := rfl
  have HM : Hid (rpC id whose A n c op s.C = ([.int .i64 id, .int .i64 whose, .slice A n c] ++ cellsOf op) ++ (s.C ++ [])) := Lib.hid (by simp [rpC])
  have hU : Hid (upB id 1000000 = true ↔ 0 ≤ id ∧ id ≤ 1000000) := Lib.hid (by unfold upB; simp)
  have hR : Hid (besideB id whose n = true ↔ (0 ≤ id ∧ id ≤ 1000000) ∧ (0 ≤ whose ∧ whose ≤ 7) ∧ n ≤ 250) := besideB_iff
  have L_s := Sm.C_len oks
  have S_s : s.C.toArray.size = 68 := by rw [List.size_toArray, L_s]
  have L_p : ([Value.int .i64 id, .int .i64 whose, .slice A n c] ++ cellsOf op).length = 35 := by simp [cellsOf_len, lo]
  obtain ⟨ok, hok⟩ : ∃ x, x = besideB id whose n := ⟨_, rfl⟩
  rw [← hok] at hR ⊢
  clear hok
  generalize rpC id whose A n c op s.C = L at *
  generalize [Value.int .i64 id, .int .i64 whose, .slice A n c] ++ cellsOf op = PR at *
  obtain ⟨SC, hSC⟩ : ∃ x, x = s.C := ⟨_, rfl⟩
  rw [← hSC] at RI HM S_s L_s
  clear hSC
  generalize s.valid = va at *
  generalize upB id 1000000 = up at *
  have B0 : Hid (Cb (w.alloc (Obj.cells L.toArray 28)) w.heap.size 28 L ∧ Ext w (w.alloc (Obj.cells L.toArray 28))) := ⟨Cb.new _ _ _, (Ext.refl w).alloc _⟩
  go_enter Tryd.func48, Tryd.ntmps48
  go_upto_region 1 with fail
  refine wp_gen (fun W => Cb W w.heap.size 28 L ∧ Ext w W) B0.out ?_
  clear B0
  rintro w0 ⟨k0, x0⟩
  have b0 := k0.cell c0.out
  replace k0 := Lib.hid k0
  replace x0 := Lib.hid x0
  go_wp2_with fail
  refine (TI.out _).mono ?_
  rintro e w1 ⟨rfl, e1⟩
  have k1 := Lib.hid (k0.out.ext e1)
  have b1 := k1.out.cell c1.out
  have b2 := k1.out.cell c2.out
  have x1 := Lib.hid (x0.out.trans e1)
  clear b0 k0 x0 e1 c0 c1 c2 TI
  rcases h0 : up with _ | _
  · have g : Hid (ok = false) := Bool.eq_false_iff.mpr fun q => by have := hU.out.2 (hR.out.1 q).1; rw [h0] at this; cases this
    clear hR hU h0
    go_wp2_with fail
    go_ret
    exact ⟨by rw [g.out]; rfl, x1.out⟩
  have h0' := hU.out.1 h0
  clear h0 hU
  by_cases q0 : ¬ (0 ≤ whose)
  · have g : Hid (ok = false) := Bool.eq_false_iff.mpr fun q => by have := hR.out.1 q; omega
    have d00 : decide ((0 : Int) ≤ whose) = false := decide_eq_false (by omega)
    clear hR
    go_wp2_with fail
    go_ret
    exact ⟨by rw [g.out]; rfl, x1.out⟩
  replace q0 := Classical.not_not.1 q0
  have d00 : decide ((0 : Int) ≤ whose) = true := decide_eq_true (by omega)
  by_cases q1 : ¬ (whose ≤ 7)
  · have g : Hid (ok = false) := Bool.eq_false_iff.mpr fun q => by have := hR.out.1 q; omega
    have d10 : decide (whose ≤ 7) = false := decide_eq_false (by omega)
    have d11 : decide (whose < 8) = false := decide_eq_false (by omega)
    clear hR
    go_wp2_with fail
    go_ret
    exact ⟨by rw [g.out]; rfl, x1.out⟩
  replace q1 := Classical.not_not.1 q1
  have d10 : decide (whose ≤ 7) = true := decide_eq_true (by omega)
  have d11 : decide (whose < 8) = true := decide_eq_true (by omega)
  by_cases q2 : ¬ (n ≤ 250)
  · have g : Hid (ok = false) := Bool.eq_false_iff.mpr fun q => by have := hR.out.1 q; omega
    have d20 : decide ((n : Int) ≤ 250) = false := decide_eq_false (by omega)
    clear hR
    go_wp2_with fail
    go_ret
    exact ⟨by rw [g.out]; rfl, x1.out⟩
  replace q2 := Classical.not_not.1 q2
  have d20 : decide ((n : Int) ≤ 250) = true := decide_eq_true (by omega)
  have g : Hid (ok = true) := hR.out.2 ⟨h0', ⟨q0, q1⟩, q2⟩
  clear hR
  have b35 : Hid (∀ j v, SC[j]? = some v → w1.cell? ⟨w.heap.size, 35 + j, none⟩ = some v) := Lib.hid (k1.out.mid HM.out L_p)
  clear HM L_p k1
  go_wp2_with (refine wpList_load_mid rfl (g := w.heap.size) (off := 35) (ys := SC) rfl rfl b35.out rfl rfl (by rw [L_s]; rfl) ?_; go_frame)
  refine (RI.out _).mono ?_
  rintro e w2 ⟨rfl, e2⟩
  have x2 := Lib.hid (x1.out.trans e2)
  clear b35 x1 e2 RI
  go_wp2_with fail
  go_ret
  exact ⟨by rw [g.out]; rfl, x2.out⟩
theorem rpByte_calls {w : World} {z : Int} : Calls Tryd.prog 47 #[.int .i64 z] w (RetBs [u8I z] w) := by
  have hz := u8I_wrap z
  generalize u8I z = y at *
  have F : Hid (Bs (w.alloc (.cells #[.int .u8 (y.toNat : Int)] 5)) (some ⟨w.heap.size, 0, none⟩) 1 1 [y] ∧ Ext w (w.alloc (.cells #[.int .u8 (y.toNat : Int)] 5))) := ⟨Bs.one8 w _ y _ rfl, (Ext.refl w).alloc _⟩
  go_enter Tryd.func47, Tryd.ntmps47
  go_wp2_with fail
  go_ret
  exact ⟨_, _, _, rfl, F.out.1, F.out.2⟩
/-- a fault's own entry -/
def faultR (n : Int) : PanicEntry := { v := .iface 30 (.int .i64 n), recovered := false }
theorem rpDemand_ok {w : World} : Calls Tryd.prog 55 #[.bool true] w fun e w' => e = .returned (.tuple #[]) ∧ Ext w w' := by
  go_enter Tryd.func55, Tryd.ntmps55
  go_wp2_with fail
  go_end0
  exact ⟨rfl, Ext.refl _⟩
theorem rpDemand_bad {w : World} : Calls Tryd.prog 55 #[.bool false] w fun e w' => e = .panicked [faultR 2] ∧ Ext w w' := by
  go_enter Tryd.func55, Tryd.ntmps55
  go_wp2_with fail
  exact ⟨rfl, rfl, Ext.refl _⟩
theorem rpSized_ok {w : World} {A : Option Addr} {n c k : Nat} (h : n = k) (hn : k ≤ 1000000) : Calls Tryd.prog 57 #[.slice A n c, .int .i64 (k : Int)] w fun e w' => e = .returned (.slice A k c) ∧ Ext w w' := by
  subst h
  have DM : Hid (∀ W : World, Calls Tryd.prog 55 #[.bool true] W fun e w' => e = .returned (.tuple #[]) ∧ Ext W w') := fun W => rpDemand_ok
  have d : ((n : Int) == (n : Int)) = true := by simp
  go_enter Tryd.func57, Tryd.ntmps57
  go_wp2_with fail
  refine (DM.out _).mono ?_
  rintro e w1 ⟨rfl, x1⟩
  go_wp2_with fail
  go_ret
  exact ⟨rfl, x1⟩
theorem rpSized_bad {w : World} {A : Option Addr} {n c k : Nat} (h : n ≠ k) : Calls Tryd.prog 57 #[.slice A n c, .int .i64 (k : Int)] w fun e w' => e = .panicked [faultR 2] ∧ Ext w w' := by
  have DM : Hid (∀ W : World, Calls Tryd.prog 55 #[.bool false] W fun e w' => e = .panicked [faultR 2] ∧ Ext W w') := fun W => rpDemand_bad
  have d : ((n : Int) == (k : Int)) = false := by simp; omega
  go_enter Tryd.func57, Tryd.ntmps57
  go_wp2_with fail
  refine (DM.out _).mono ?_
  rintro e w1 ⟨rfl, x1⟩
  exact ⟨rfl, rfl, x1⟩
theorem rp_assert (n : Int) (w : World) : (Instr.typeAssert (.iface 30 (.int .i64 n)) 20 30 true).run Tryd.prog w = .ok (.tuple #[.int .i64 n, .bool true]) w := by kernel_rfl
theorem rpErrnoOf_calls {w : World} {n : Int} : Calls Tryd.prog 53 #[.iface 30 (.int .i64 n)] w fun e w' => e = .returned (.int .i64 n) ∧ Ext w w' := by
  have hta := rp_assert
  go_enter Tryd.func53, Tryd.ntmps53
  go_wp2_with fail
  go_ret
  exact ⟨rfl, Ext.refl _⟩
end Go.Proofs.YtmnohmhhmaeljaaDoor
end

section
/-
  A slice of slices of bytes, built of three or five. No conditions.
-/
namespace Go.Proofs.YtmnohmhhmaeljaaDoor
open Go.ChangeShapes Go.WideShapes Go.ChangeAt Go.RowKit Go.Deep

theorem rw_lit3 {W : World} {t : TypeId} {A B C : Option Addr} {n m l c d f : Nat} {xs ys zs : List UInt8} (h1 : Bs W A n c xs) (h2 : Bs W B m d ys) (h3 : Bs W C l f zs) : Rw (W.alloc (.cells #[.slice A n c, .slice B m d, .slice C l f] t)) (some ⟨W.heap.size, 0, none⟩) 3 3 [xs, ys, zs] := by
  have e : Ext W (W.alloc (.cells #[.slice A n c, .slice B m d, .slice C l f] t)) := (Ext.refl W).alloc _
  refine ⟨rfl, Nat.le_refl _, by unfold maxLen; omega, fun _ => ⟨_, 0, rfl, by rw [size_alloc]; omega, fun j hj => ?_⟩⟩
  rw [cell_of_row _ _ _ _ _ (0, 0) (heap_alloc_new _ _)]
  match j with
  | 0 => exact ⟨A, n, c, rfl, h1.ext e⟩
  | 1 => exact ⟨B, m, d, rfl, h2.ext e⟩
  | 2 => exact ⟨C, l, f, rfl, h3.ext e⟩
  | j + 3 => omega
theorem rw_lit5 {W : World} {t : TypeId} {A B C D E : Option Addr} {n m l p q c d f g h : Nat} {xs ys zs us vs : List UInt8} (h1 : Bs W A n c xs) (h2 : Bs W B m d ys) (h3 : Bs W C l f zs) (h4 : Bs W D p g us) (h5 : Bs W E q h vs) : Rw (W.alloc (.cells #[.slice A n c, .slice B m d, .slice C l f, .slice D p g, .slice E q h] t)) (some ⟨W.heap.size, 0, none⟩) 5 5 [xs, ys, zs, us, vs] := by
  have e : Ext W (W.alloc (.cells #[.slice A n c, .slice B m d, .slice C l f, .slice D p g, .slice E q h] t)) := (Ext.refl W).alloc _
  refine ⟨rfl, Nat.le_refl _, by unfold maxLen; omega, fun _ => ⟨_, 0, rfl, by rw [size_alloc]; omega, fun j hj => ?_⟩⟩
  rw [cell_of_row _ _ _ _ _ (0, 0) (heap_alloc_new _ _)]
  match j with
  | 0 => exact ⟨A, n, c, rfl, h1.ext e⟩
  | 1 => exact ⟨B, m, d, rfl, h2.ext e⟩
  | 2 => exact ⟨C, l, f, rfl, h3.ext e⟩
  | 3 => exact ⟨D, p, g, rfl, h4.ext e⟩
  | 4 => exact ⟨E, q, h, rfl, h5.ext e⟩
  | j + 5 => omega
end Go.Proofs.YtmnohmhhmaeljaaDoor
end

section
/-
  Bytes that lie in memory of the call's own. No conditions.
-/
namespace Go.Proofs.YtmnohmhhmaeljaaDoor
open Go.ChangeShapes Go.WideShapes Go.ChangeAt Go.RowKit Go.Deep

/-- The call hands back bytes that lie in memory of its own. -/
def RetOwn (xs : List UInt8) (w : World) (e : Ending) (w' : World) : Prop := ∃ A n c, e = .returned (.slice A n c) ∧ Own w.heap.size w' A n c xs ∧ Ext w w'
end Go.Proofs.YtmnohmhhmaeljaaDoor
end

section
/-
  The document's High.
-/
namespace Go.Proofs.YtmnohmhhmaeljaaDoor
open Go.ChangeShapes Go.WideShapes Go.ChangeAt Go.RowKit Go.Deep

theorem lowL_snoc (n k : Nat) : lowL n (k + 1) = lowL n k ++ [UInt8.ofNat (n / 256 ^ k)] := by
  unfold lowL
  rw [List.range_succ, List.map_append]
  rfl
theorem lowAt_u8 (n k : Nat) : (lowAt n k : Int) % 256 = ((UInt8.ofNat (n / 256 ^ k)).toNat : Int) := by
  rw [lowAt_byte, UInt8.toNat_ofNat']

theorem Own.one8 (w : World) (B : Nat) (hB : B ≤ w.heap.size) (x : UInt8) (v : Int) (hv : v = (x.toNat : Int)) : Own B (w.alloc (.cells #[.int .u8 v] 5)) (some ⟨w.heap.size, 0, none⟩) 1 1 [x] := by
  subst hv
  exact World.ownsRow_lit (e := 5) (size := 1) w #[.int .u8 (x.toNat : Int)] 1 hB (by unfold maxLen; omega) rfl

set_option maxHeartbeats 1000000 in
theorem refHigh_calls {n m : Nat} {many : Int} {w : World} (hn : n < 18446744073709551616) (h1 : 0 ≤ many) (h2 : many ≤ 9223372036854775807) (hm8 : m ≤ 8) (hM : (if (8 : Int) < many then 8 else many) = (m : Int)) :
    Calls Tryd.prog 51 #[.int .u64 (n : Int), .int .i64 many] w (RetBs (lowL n m).reverse w) := by
  have hz : lowAt n 0 = n := by simp [lowAt]
  have hM' : m = many ∨ (m = 8 ∧ 8 < many) := by
    by_cases q : (8 : Int) < many
    · rw [if_pos q] at hM; right; omega
    · rw [if_neg q] at hM; left; omega
  clear hM
  go_enter Tryd.func51, Tryd.ntmps51
  go_wp2
  go_loopw [0, 5, 6] (fun x v i wr => ∃ (k cc : Nat) (D : Option Addr), k ≤ m ∧ i = .int .i64 k ∧ x = .int .u64 (lowAt n k : Int) ∧ v = .slice D k cc ∧ Bs wr D k cc (lowL n k).reverse ∧ Ext w wr) (fun _ _ i _ => m - (intOf i).toNat)
  case atStart => exact ⟨0, 0, none, Nat.zero_le _, rfl, by rw [hz], rfl, Bs.nil _, Ext.refl _⟩
  case round =>
    obtain ⟨k, cc, D, hk, rfl, rfl, rfl, ho, hE⟩ := hrel
    clear hz
    by_cases hlt : k < m
    · have t1 : (k : Int) < 8 := by omega
      have t2 : (k : Int) < many := by omega
      have hle := Nat.lt_of_le_of_lt (lowAt_le n k) hn
      have hsz := hE.size
      have hv := Lib.hid (lowAt_u8 n k)
      clear hM'
      go_wp2_with (at_builtin; refine wpList_append_bs rfl (B := w.heap.size) rfl rfl rfl (Own.one8 wr w.heap.size hsz (UInt8.ofNat (n / 256 ^ k)) _ hv.out) (ho.ext ((Ext.refl _).alloc _)) (by omega) (by simp; omega) ?_; intro D' cc' w2 ho2 hg2 hbl)
      go_roundw
      case rel => exact ⟨k + 1, cc', D', by omega, by go_num, congrArg (Value.int .u64) (lowAt_int n k), by rw [Nat.add_comm], by rw [lowL_snoc, List.reverse_append, Nat.add_comm k 1]; exact ho2.bs, (hE.alloc _).trans' hbl⟩
      case measure => simp [intOf]; omega
    · obtain rfl : k = m := by omega
      rcases hM' with hM' | ⟨rfl, hM'⟩
      · subst hM'
        go_wp2
        go_ret
        exact ⟨_, _, _, rfl, ho, hE⟩
      · go_wp2
        go_ret
        exact ⟨_, _, _, rfl, ho, hE⟩
end Go.Proofs.YtmnohmhhmaeljaaDoor
end

section
/-
  octets.High and the document's: what they hand back is a row of their own.
-/
namespace Go.Proofs.YtmnohmhhmaeljaaDoor
open Go.ChangeShapes Go.WideShapes Go.ChangeAt Go.RowKit Go.Deep

theorem Own.mono {B B' : Nat} {w : World} {A : Option Addr} {n c : Nat} {xs : List UInt8} (h : Own B w A n c xs) (hB : B' ≤ B) : Own B' w A n c xs := by
  refine ⟨h.1, ?_⟩
  rcases h.2 with h | ⟨g, cap, cur, hv, hb, r⟩
  · exact .inl h
  · exact .inr ⟨g, cap, cur, hv, Nat.le_trans hB hb, r⟩
theorem Own.of_row {B b n : Nat} {w : World} {f : Nat → Value} {xs : List UInt8} (hl : xs.length = n) (hn : n ≤ 281474976710656) (hB : B ≤ b) (h : w.rowIs b 5 n f) (hf : ∀ j, j < n → f j = .int .u8 (bt xs j : Int)) : Own B w (some ⟨b, 0, none⟩) n n xs := by
  obtain ⟨c, h1, h2, h3⟩ := h
  refine ⟨by rw [List.length_map, hl, Nat.mul_one], .inr ⟨b, n, c, rfl, hB, h1, Nat.le_refl _, by unfold maxLen; omega, by rw [h2, Nat.mul_one], ?_⟩⟩
  rw [Nat.mul_one, List.take_of_length_le (by simp [h2])]
  apply List.ext_getElem?
  intro j
  by_cases hj : j < n
  · rw [Array.getElem?_toList, h3 j hj, hf j hj, u8v_bt (by omega)]
  · rw [List.getElem?_eq_none (by simp [h2]; omega), List.getElem?_eq_none (by simp [hl]; omega)]
set_option maxHeartbeats 400000 in
theorem reversedO_calls {A : Option Addr} {n c : Nat} {xs : List UInt8} {w : World} (h : Bs w A n c xs) (hm : n ≤ 281474976710656) :
    Calls Tryd.prog 90 #[.slice A n c] w (RetOwn xs.reverse w) := by
  have h1 := h.le
  have h2 := h.cap
  have hmk := make8 n hm
  go_enter Tryd.func90, Tryd.ntmps90
  go_wp2
  clear hmk
  go_loopw [10] (fun i wr => ∃ k : Nat, k ≤ n ∧ i = .int .i64 k ∧ FillBack w wr n k (fun j => bt xs (n - 1 - j))) (fun i _ => n - (intOf i).toNat)
  case atStart => exact ⟨0, Nat.zero_le _, rfl, (Ext.refl w).alloc _, (World.rowIs_made w _ n _).congr fun i hi => by rw [if_neg (by omega)]⟩
  case round =>
    obtain ⟨k, hk, rfl, hf⟩ := hrel
    by_cases hlt : k < n
    · obtain ⟨b, off, rfl, hb, hc⟩ := h.pos (by omega)
      have g1 := (hf.1.cell (p := ⟨b, off + k, none⟩) hb).trans (hc k hlt)
      have g3 := hf.2.cell (i := n - 1 - k) (by omega)
      rw [if_neg (by omega)] at g3
      have g4 := hf.2.frozen (n - 1 - k)
      clear hc
      go_wp2
      go_roundw
      case rel =>
        exact ⟨k + 1, by omega, by go_num, hf.step (by omega) (by rw [show n - 1 - (n - 1 - k) = k by omega])⟩
      case measure => simp [intOf]; omega
    · obtain rfl : k = n := by omega
      go_wp2
      go_ret
      refine ⟨_, _, _, rfl, Own.of_row (by rw [List.length_reverse, h.len]) (by omega) (Nat.le_refl _) hf.2 fun j hj => ?_, hf.1⟩
      rw [if_pos (by omega), bt_reverse (by rw [h.len]; exact hj), h.len]

set_option maxHeartbeats 400000 in
theorem highO_calls {n m : Nat} {many : Int} {w : World} (hn : n < 18446744073709551616) (h1 : 0 ≤ many) (h2 : many ≤ 9223372036854775807) (hm8 : m ≤ 8) (hM : (if (8 : Int) < many then 8 else many) = (m : Int)) :
    Calls Tryd.prog 45 #[.int .u64 (n : Int), .int .i64 many] w (RetOwn (lowL n m).reverse w) := by
  have hM' := Lib.hid hM
  clear hM
  go_enter Tryd.func45, Tryd.ntmps45
  go_wp2_with fail
  refine (low_calls hn h1 h2 hm8 hM'.out).mono ?_
  rintro e w1 ⟨A, k, c, rfl, hb, he⟩
  go_wp2_with fail
  have hk : k ≤ 8 := by have := hb.len; rw [lowL_len] at this; omega
  refine (reversedO_calls hb (by omega)).mono ?_
  rintro e w2 ⟨A, k, c, rfl, hb2, he2⟩
  go_wp2_with fail
  go_ret
  exact ⟨_, _, _, rfl, hb2.mono he.size, he.trans he2⟩
set_option maxHeartbeats 1000000 in
theorem refHighO_calls {n m : Nat} {many : Int} {w : World} (hn : n < 18446744073709551616) (h1 : 0 ≤ many) (h2 : many ≤ 9223372036854775807) (hm8 : m ≤ 8) (hM : (if (8 : Int) < many then 8 else many) = (m : Int)) :
    Calls Tryd.prog 51 #[.int .u64 (n : Int), .int .i64 many] w (RetOwn (lowL n m).reverse w) := by
  have hz : lowAt n 0 = n := by simp [lowAt]
  have hM' : m = many ∨ (m = 8 ∧ 8 < many) := by
    by_cases q : (8 : Int) < many
    · rw [if_pos q] at hM; right; omega
    · rw [if_neg q] at hM; left; omega
  clear hM
  go_enter Tryd.func51, Tryd.ntmps51
  go_wp2
  go_loopw [0, 5, 6] (fun x v i wr => ∃ (k cc : Nat) (D : Option Addr), k ≤ m ∧ i = .int .i64 k ∧ x = .int .u64 (lowAt n k : Int) ∧ v = .slice D k cc ∧ Own w.heap.size wr D k cc (lowL n k).reverse ∧ Ext w wr) (fun _ _ i _ => m - (intOf i).toNat)
  case atStart => exact ⟨0, 0, none, Nat.zero_le _, rfl, by rw [hz], rfl, Own.nil _ _, Ext.refl _⟩
  case round =>
    obtain ⟨k, cc, D, hk, rfl, rfl, rfl, ho, hE⟩ := hrel
    clear hz
    by_cases hlt : k < m
    · have t1 : (k : Int) < 8 := by omega
      have t2 : (k : Int) < many := by omega
      have hle := Nat.lt_of_le_of_lt (lowAt_le n k) hn
      have hsz := hE.size
      have hv := Lib.hid (lowAt_u8 n k)
      clear hM'
      go_wp2_with (at_builtin; refine wpList_append_bs rfl (B := w.heap.size) rfl rfl rfl (Own.one8 wr w.heap.size hsz (UInt8.ofNat (n / 256 ^ k)) _ hv.out) (ho.bs.ext ((Ext.refl _).alloc _)) (by omega) (by simp; omega) ?_; intro D' cc' w2 ho2 hg2 hbl)
      go_roundw
      case rel => exact ⟨k + 1, cc', D', by omega, by go_num, congrArg (Value.int .u64) (lowAt_int n k), by rw [Nat.add_comm], by rw [lowL_snoc, List.reverse_append, Nat.add_comm k 1]; exact ho2, (hE.alloc _).trans' hbl⟩
      case measure => simp [intOf]; omega
    · obtain rfl : k = m := by omega
      rcases hM' with hM' | ⟨rfl, hM'⟩
      · subst hM'
        go_wp2
        go_ret
        exact ⟨_, _, _, rfl, ho, hE⟩
      · go_wp2
        go_ret
        exact ⟨_, _, _, rfl, ho, hE⟩
end Go.Proofs.YtmnohmhhmaeljaaDoor
end

section
/-
  Bytes within a block. No conditions.
-/
namespace Go.Proofs.YtmnohmhhmaeljaaDoor
open Go.ChangeShapes Go.WideShapes Go.ChangeAt Go.RowKit Go.Deep

/-- A part of a block that holds bytes reads as them. -/
theorem Cb.bs {w : World} {g : Nat} {T : TypeId} {L : List Value} (h : Cb w g T L) {p q : List Value} {xs : List UInt8} {off n : Nat} (hL : L = p ++ (cellsOf xs ++ q)) (hp : p.length = off) (hn : xs.length = n) (hm : n ≤ 1000000) : Bs w (some ⟨g, off, none⟩) n n xs :=
  ⟨hn, Nat.le_refl _, by unfold maxLen; omega, fun _ => ⟨g, off, rfl, h.lt, fun j hj => h.mid hL hp j _ (cellsOf_get (by omega))⟩⟩
end Go.Proofs.YtmnohmhhmaeljaaDoor
end

section
/-
  stamp.told, stamp.Bytes.
-/
namespace Go.Proofs.YtmnohmhhmaeljaaDoor
open Go.ChangeShapes Go.WideShapes Go.ChangeAt Go.RowKit Go.Deep
set_option maxRecDepth 100000

theorem st_parts {ep f t tm : Int} {cm tg : List UInt8} (lc : cm.length = 32) : stC ep f t tm cm tg = [.int .i64 ep, .int .i64 f, .int .i64 t, .int .i64 tm] ++ (cellsOf cm ++ cellsOf tg) ∧ stC ep f t tm cm tg = ([.int .i64 ep, .int .i64 f, .int .i64 t, .int .i64 tm] ++ cellsOf cm) ++ (cellsOf tg ++ []) ∧ ([Value.int .i64 ep, .int .i64 f, .int .i64 t, .int .i64 tm] ++ cellsOf cm).length = 36 := ⟨rfl, by simp [stC], by simp [cellsOf_len, lc]⟩
set_option maxHeartbeats 4000000 in
theorem told_calls {w : World} {ep : Int} {f t tm : Nat} {cm tg : List UInt8} (lc : cm.length = 32) (hf : f ≤ 7) (ht : t ≤ 7) (htm : tm ≤ 1000000) : Calls Tryd.prog 88 #[.agg (stC ep f t tm cm tg).toArray] w (RetOwn (toldL f t tm cm) w) := by
  have H1 : Hid (∀ (W : World), Calls Tryd.prog 45 #[.int .u64 (f : Int), .int .i64 1] W (RetOwn (hiB f 1) W)) := fun W => highO_calls (by omega) (by omega) (by omega) (by omega) rfl
  have H2 : Hid (∀ (W : World), Calls Tryd.prog 45 #[.int .u64 (t : Int), .int .i64 1] W (RetOwn (hiB t 1) W)) := fun W => highO_calls (by omega) (by omega) (by omega) (by omega) rfl
  have H4 : Hid (∀ (W : World), Calls Tryd.prog 45 #[.int .u64 (tm : Int), .int .i64 4] W (RetOwn (hiB tm 4) W)) := fun W => highO_calls (by omega) (by omega) (by omega) (by omega) rfl
  have u1 : IntKind.u64.wrap (f : Int) = (f : Int) := IntWalk.u64_in _ (by omega)
  have u2 : IntKind.u64.wrap (t : Int) = (t : Int) := IntWalk.u64_in _ (by omega)
  have u3 : IntKind.u64.wrap (tm : Int) = (tm : Int) := IntWalk.u64_in _ (by omega)
  have c1 : Hid ((stC ep f t tm cm tg)[1]? = some (.int .i64 (f : Int))) := rfl
  have c2 : Hid ((stC ep f t tm cm tg)[2]? = some (.int .i64 (t : Int))) := rfl
  have c3 : Hid ((stC ep f t tm cm tg)[3]? = some (.int .i64 (tm : Int))) := rfl
  have cc := Lib.hid (fun _ : Unit => (st_parts (ep := ep) (f := f) (t := t) (tm := tm) (tg := tg) lc).1)
  have hR : Hid (((hiB f 1 ++ hiB t 1) ++ hiB tm 4) ++ cm = toldL f t tm cm) := rfl
  have l1 := hiB_len f 1
  have l2 := hiB_len t 1
  have l4 := hiB_len tm 4
  generalize toldL f t tm cm = R at *
  generalize stC ep f t tm cm tg = st at *
  generalize hiB f 1 = b1 at *
  generalize hiB t 1 = b2 at *
  generalize hiB tm 4 = b4 at *
  clear hf ht htm
  obtain ⟨r, hr⟩ : ∃ r, r = w.heap.size := ⟨_, rfl⟩
  have B0 : Hid (Cb (w.alloc (Obj.cells st.toArray 26)) r 26 st ∧ Ext w (w.alloc (Obj.cells st.toArray 26))) := by rw [hr]; exact ⟨Cb.new _ _ _, (Ext.refl w).alloc _⟩
  go_enter Tryd.func88, Tryd.ntmps88
  go_upto_region 1 with fail
  refine wp_gen (fun W => Cb W r 26 st ∧ Ext w W) B0.out ?_
  rw [← hr]
  have wr : w.heap.size ≤ r := Nat.le_of_eq hr.symm
  clear B0
  replace hr := Lib.hid hr
  rintro w0 ⟨k0, x0⟩
  have g0 := k0.cell c1.out
  have z0 : r + 1 ≤ w0.heap.size := k0.lt
  replace k0 := Lib.hid k0
  replace x0 := Lib.hid x0
  go_wp2_with fail
  refine (H1.out _).mono ?_
  rintro e w1 ⟨A1, n1, m1, rfl, o1, e1⟩
  obtain rfl : n1 = 1 := by rw [← o1.len, l1]
  replace o1 := Lib.hid (o1.mono z0)
  have k1 := Lib.hid (k0.out.ext e1)
  have x1 := Lib.hid (x0.out.trans e1)
  have g1 := k1.out.cell c2.out
  clear g0 k0 x0 e1 H1 z0
  go_wp2_with fail
  refine (H2.out _).mono ?_
  rintro e w2 ⟨A2, n2, m2, rfl, o2, e2⟩
  obtain rfl : n2 = 1 := by rw [← o2.len, l2]
  replace o1 := Lib.hid (o1.out.ext e2)
  replace o2 := Lib.hid o2.bs
  have k2 := Lib.hid (k1.out.ext e2)
  have x2 := Lib.hid (x1.out.trans e2)
  have z2 : r + 1 ≤ w2.heap.size := k2.out.lt
  clear g1 k1 x1 e2 H2
  go_upto_region 3 with (at_builtin; (with_reducible refine wpList_append_bs rfl (B := r + 1) (s := .tmp 8) (x := .tmp 12) rfl rfl rfl o1.out o2.out (by omega) z2 ?_); intro A3 m3 w3 o3 g3 d3; replace o3 := Lib.hid o3; clear g3; replace d3 := Lib.hid d3; go_frame)
  refine wp_gen (fun W => Own (r + 1) W A3 (1 + 1) m3 (b1 ++ b2) ∧ Cb W r 26 st ∧ Ext w W) ⟨o3.out, k2.out.kept d3.out (by omega), Below.trans x2.out (d3.out.mono (by omega))⟩ ?_
  clear o3 d3 o1 o2 k2 x2 z2
  rintro w4 ⟨o3, k3, x3⟩
  have g3 := k3.cell c3.out
  replace o3 := Lib.hid o3
  replace k3 := Lib.hid k3
  replace x3 := Lib.hid x3
  go_wp2_with fail
  refine (H4.out _).mono ?_
  rintro e w5 ⟨A5, n5, m5, rfl, o5, e5⟩
  obtain rfl : n5 = 4 := by rw [← o5.len, l4]
  have o4 := Lib.hid (o3.out.ext e5)
  replace o5 := Lib.hid o5.bs
  have k5 := Lib.hid (k3.out.ext e5)
  have x5 := Lib.hid (x3.out.trans e5)
  have z5 : r + 1 ≤ w5.heap.size := k5.out.lt
  clear g3 o3 k3 x3 e5 H4
  go_upto_region 4 with (at_builtin; (with_reducible refine wpList_append_bs rfl (B := r + 1) (s := .tmp 14) (x := .tmp 18) rfl rfl rfl o4.out o5.out (by omega) z5 ?_); intro A6 m6 w6 o6 g6 d6; replace o6 := Lib.hid o6; clear g6; replace d6 := Lib.hid d6; go_frame)
  refine wp_gen (fun W => Own (r + 1) W A6 (1 + 1 + 4) m6 ((b1 ++ b2) ++ b4) ∧ Cb W r 26 st ∧ Ext w W) ⟨o6.out, k5.out.kept d6.out (by omega), Below.trans x5.out (d6.out.mono (by omega))⟩ ?_
  clear o6 d6 o4 o5 k5 x5 z5
  rintro w7 ⟨o7, k7, x7⟩
  have b7 := Lib.hid (k7.bs (cc.out ()) rfl lc (by omega))
  have z7 : r + 1 ≤ w7.heap.size := k7.lt
  replace o7 := Lib.hid o7
  replace x7 := Lib.hid x7
  clear k7
  go_wp2_with (at_builtin; (with_reducible refine wpList_append_bs rfl (B := r + 1) (s := .tmp 20) (x := .tmp 22) rfl rfl rfl o7.out b7.out (by omega) z7 ?_); intro A8 m8 w8 o8 g8 d8; replace o8 := Lib.hid o8; clear g8; replace d8 := Lib.hid d8; go_frame)
  go_ret
  exact ⟨_, _, _, rfl, by rw [← hR.out]; exact o8.out.mono (by omega), Below.trans x7.out (d8.out.mono (by omega))⟩
end Go.Proofs.YtmnohmhhmaeljaaDoor
end

section
/-
  octets.Same tells whether two rows of bytes are the same.
-/
namespace Go.Proofs.YtmnohmhhmaeljaaDoor
open Go.ChangeShapes Go.WideShapes Go.ChangeAt Go.RowKit Go.Deep

set_option maxHeartbeats 400000 in
theorem same_calls {A A' : Option Addr} {n c n' c' : Nat} {xs ys : List UInt8} {w : World} (h : Bs w A n c xs) (h' : Bs w A' n' c' ys) :
    Calls Tryd.prog 119 #[.slice A n c, .slice A' n' c'] w fun e w' => e = .returned (.bool (decide (xs = ys))) ∧ ∃ k, w' = w.drewN k := by
  have h1 := h.le
  have h2 := h.cap
  have h3 := h'.le
  have h4 := h'.cap
  by_cases hn : n = n'
  · subst hn
    have hl : xs.length = ys.length := h.len.trans h'.len.symm
    have hs : Hid (((differ xs ys n : Int) == 0) = decide (xs = ys)) := by
      unfold Hid
      rw [Bool.eq_iff_iff, decide_eq_true_iff, beq_iff_eq, Int.natCast_eq_zero, differ_zero, same_iff hl, h.len]
    have hl' := Lib.hid hl
    clear hl
    go_enter Tryd.func119, Tryd.ntmps119
    go_wp2
    go_loopw [5, 14] (fun d i wr => ∃ k m : Nat, k ≤ n ∧ i = .int .i64 k ∧ d = .int .u8 (differ xs ys k) ∧ wr = w.drewN m) (fun _ i _ => n - (intOf i).toNat)
    case atStart => exact ⟨0, 0, Nat.zero_le _, rfl, rfl, rfl⟩
    case round =>
      obtain ⟨k, m, hk, rfl, rfl, rfl⟩ := hrel
      by_cases hlt : k < n
      · obtain ⟨b, off, rfl, hb, hc⟩ := h.pos (by omega)
        obtain ⟨b', off', rfl, hb', hc'⟩ := h'.pos (by omega)
        have g1 := hc k hlt
        have g2 := hc' k hlt
        have hu := Lib.hid (u8_differ xs ys k)
        clear hc hc'
        go_wp2
        go_quiet (fail)
        go_wp2
        go_roundw
        case rel => exact ⟨k + 1, _, by omega, by go_num, by rw [← hu.out], rfl⟩
        case measure => simp [intOf]; omega
      · obtain rfl : k = n := by omega
        go_wp2
        go_ret
        exact ⟨ret_bool hs.out, m, rfl⟩
  · have hb : ((n : Int) != (n' : Int)) = true := by rw [bne_iff_ne]; omega
    go_enter Tryd.func119, Tryd.ntmps119
    go_wp2
    go_ret
    refine ⟨?_, 0, rfl⟩
    have : xs ≠ ys := fun e => hn (by rw [← h.len, ← h'.len, e])
    simp [this]

theorem same_ext {A A' : Option Addr} {n c n' c' : Nat} {xs ys : List UInt8} {w : World} {r : Bool} (h : Bs w A n c xs) (h' : Bs w A' n' c' ys) (hr : decide (xs = ys) = r) :
    Calls Tryd.prog 119 #[.slice A n c, .slice A' n' c'] w fun e w' => e = .returned (.bool r) ∧ Ext w w' :=
  (same_calls h h').mono fun _ _ ⟨he, k, hk⟩ => ⟨by rw [he, hr], by rw [hk]; exact (Ext.refl w).drewN k⟩
end Go.Proofs.YtmnohmhhmaeljaaDoor
end

section
/-
  blake.Check.
-/
namespace Go.Proofs.YtmnohmhhmaeljaaDoor
open Go.ChangeShapes Go.WideShapes Go.ChangeAt Go.RowKit Go.Deep

/-- What Check tells of a tag. -/
def checkE (ms ts : List UInt8) : Int := if ms = ts then 0 else 4
theorem checkE_pos {ms ts : List UInt8} (h : ms = ts) : checkE ms ts = 0 := if_pos h
theorem checkE_neg {ms ts : List UInt8} (h : ¬ ms = ts) : checkE ms ts = 4 := if_neg h
set_option maxRecDepth 100000 in
set_option maxHeartbeats 1000000 in
theorem check_long {A A' : Option Addr} {n c m d : Nat} {ks bs ts : List UInt8} {w : World} (h : Bs w A n c ks) (h' : Bs w A' m d bs) (ht : ts.length = 32) (hk : 32 < n) :
    Calls Tryd.prog 87 #[.slice A n c, .slice A' m d, .agg (cellsOf ts).toArray] w fun e w' => e = .returned (.int .i64 1) ∧ Ext w w' := by
  have hal : ∀ w, (zeroValue 24).run Tryd.prog w = .ok (.agg zeros32) w := fun _ => by kernel_rfl
  have hz0 := zeros32_size
  have hz1 := zeros32_one
  have CALL : Hid (∀ W, Ext w W → Calls Tryd.prog 79 #[.slice A n c, .slice A' m d] W fun e w' => e = .returned (.tuple #[.agg zeros32, .int .i64 1]) ∧ Ext W w') := fun W e => by
    have := mac_long (h.ext e) (h'.ext e) hk
    rwa [zeros32_cells] at this
  generalize zeros32 = Z at *
  generalize (cellsOf ts).toArray = T at *
  go_enter Tryd.func87, Tryd.ntmps87
  go_wp2_with fail
  refine (CALL.out _ ((Ext.refl w).alloc _)).mono ?_
  rintro e w1 ⟨rfl, e1⟩
  go_wp2_with (refine wpList_store_row rfl 24 _ _ rfl w1.heap.size Z rfl rfl 24 _ (by with_reducible exact heap_alloc_new _ _) (by rw [hz0]; rfl) rfl hz1 ?_)
  go_ret
  exact ⟨rfl, below_setRow (((((Ext.refl w).alloc _).trans e1)).alloc _) (Nat.le_trans (by simp) e1.size) _⟩

set_option maxRecDepth 100000 in
set_option maxHeartbeats 1000000 in
theorem check_calls {A A' : Option Addr} {n c m d : Nat} {ks bs ts : List UInt8} {w : World} (h : Bs w A n c ks) (h' : Bs w A' m d bs) (ht : ts.length = 32) (hk : n ≤ 32) {tg : TypeId × Nat × Nat} (hG : Gl w tg) :
    Calls Tryd.prog 87 #[.slice A n c, .slice A' m d, .agg (cellsOf ts).toArray] w fun e w' => e = .returned (.int .i64 (checkE (macL ks bs) ts)) ∧ Ext w w' := by
  have hal : ∀ w, (zeroValue 24).run Tryd.prog w = .ok (.agg zeros32) w := fun _ => by kernel_rfl
  have hz0 := zeros32_size
  have CALL : Hid (∀ W, Ext w W → Calls Tryd.prog 79 #[.slice A n c, .slice A' m d] W fun e w' => e = .returned (.tuple #[.agg (cellsOf (macL ks bs)).toArray, .int .i64 0]) ∧ Ext W w') := fun W e => mac_calls (h.ext e) (h'.ext e) hk (hG.kept e hG.lt)
  clear hG
  have ML := macL_len ks bs
  generalize zeros32 = Z at *
  generalize macL ks bs = ms at *
  have HM : (cellsOf ms).toArray.size = 32 := by simp [cellsOf_len, ML]
  have HM1 := cellsOf_one ms
  have hT : Hid (∀ w : World, (w.alloc (Obj.cells (cellsOf ts).toArray 24)).heap[w.heap.size]? = some (Obj.cells (cellsOf ts).toArray 24)) := fun w => heap_alloc_new _ _
  generalize hTT : (cellsOf ts).toArray = T at *
  replace hTT := Lib.hid hTT
  go_enter Tryd.func87, Tryd.ntmps87
  go_wp2_with fail
  refine (CALL.out _ ((Ext.refl w).alloc _)).mono ?_
  rintro e w1 ⟨rfl, e1⟩
  have r0 := Lib.hid ((e1.block w.heap.size (by rw [size_alloc]; omega)).trans (hT.out w))
  have e0 : Hid (Ext w w1) := ((Ext.refl w).alloc _).trans e1
  clear CALL hT e1
  go_wp2_with (refine wpList_store_row rfl 24 _ _ rfl w1.heap.size (cellsOf ms).toArray rfl rfl 24 _ (by with_reducible exact heap_alloc_new _ _) (by rw [HM]; rfl) (by rw [HM]; exact hz0) HM1 ?_)
  refine wp_gen (fun W => Ext w W ∧ W.heap[w.heap.size]? = some (Obj.cells T 24 (0, 0)) ∧ W.heap[w1.heap.size]? = some (Obj.cells (cellsOf ms).toArray 24 (0, 0))) ⟨below_setRow (e0.out.alloc _) e0.out.size _, (setRow_other _ _ _ _ (Nat.ne_of_lt (heap_lt r0.out))).trans (((Ext.refl w1).alloc _ |>.block _ (heap_lt r0.out)).trans r0.out), setRow_heap _ _ _ _ _ _ (heap_alloc_new _ _)⟩ ?_
  rintro W ⟨e2, t2, m2⟩
  rw [← hTT.out] at t2
  replace e2 := Lib.hid e2
  replace t2 := Lib.hid (Bs.key t2 ht)
  replace m2 := Lib.hid (Bs.key m2 ML)
  clear e0 r0
  by_cases hq : ms = ts
  · have SAME : Hid (∀ W', Ext W W' → Calls Tryd.prog 119 #[.slice (some ⟨w1.heap.size, 0, none⟩) 32 32, .slice (some ⟨w.heap.size, 0, none⟩) 32 32] W' fun e w' => e = .returned (.bool true) ∧ Ext W' w') := fun W' e => same_ext (m2.out.ext e) (t2.out.ext e) (by simpa using hq)
    have HQ := Lib.hid hq
    clear hq
    refine qgE [0, 1, 2, 3] [2] ?_
    repeat ((first | refine qR0 ?_ | refine qS ?_); go_frame)
    refine qD fun K hK => ?_
    go_simp
    refine (SAME.out _ (Ext.refl _).drew).mono ?_
    rintro e w2 ⟨rfl, e3⟩
    refine hK.out _ _ e3 ?_
    clear hK K
    try go_frame
    repeat ((first | refine qR0 ?_ | refine qS ?_); go_frame)
    refine seq_done ?_
    go_wp2_with fail
    go_ret
    exact ⟨by rw [checkE_pos HQ.out]; rfl, e2.out.drew.trans e3⟩
  · have SAME : Hid (∀ W', Ext W W' → Calls Tryd.prog 119 #[.slice (some ⟨w1.heap.size, 0, none⟩) 32 32, .slice (some ⟨w.heap.size, 0, none⟩) 32 32] W' fun e w' => e = .returned (.bool false) ∧ Ext W' w') := fun W' e => same_ext (m2.out.ext e) (t2.out.ext e) (by simpa using hq)
    have HQ := Lib.hid hq
    clear hq
    refine qgE [0, 1, 2, 3] [2] ?_
    repeat ((first | refine qR0 ?_ | refine qS ?_); go_frame)
    refine qD fun K hK => ?_
    go_simp
    refine (SAME.out _ (Ext.refl _).drew).mono ?_
    rintro e w2 ⟨rfl, e3⟩
    refine hK.out _ _ e3 ?_
    clear hK K
    try go_frame
    repeat ((first | refine qR0 ?_ | refine qS ?_); go_frame)
    refine seq_done ?_
    go_wp2_with fail
    go_ret
    exact ⟨by rw [checkE_neg HQ.out]; rfl, e2.out.drew.trans e3⟩
end Go.Proofs.YtmnohmhhmaeljaaDoor
end
