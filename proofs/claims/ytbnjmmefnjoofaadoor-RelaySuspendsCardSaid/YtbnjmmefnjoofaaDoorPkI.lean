import Derived.Test.YtbnjmmefnjoofaaDoorPkN
import Derived.Test.YtbnjmmefnjoofaaDoorPkL
import Derived.Test.YtbnjmmefnjoofaaDoorPkO
import Derived.Test.YtbnjmmefnjoofaaDoorMix
section
/-
  Bytes and a bool behind them; bundles. No conditions.
-/
namespace Go.Proofs.YtbnjmmefnjoofaaDoor
open Go.ChangeShapes Go.WideShapes Go.ChangeAt Go.RowKit Go.Deep
set_option maxRecDepth 100000

/-- Bytes, and a bool behind them. -/
def bbC (xs : List UInt8) (b : Bool) : List Value := cellsOf xs ++ [.bool b]
theorem bbC_len (xs : List UInt8) (b : Bool) : (bbC xs b).length = xs.length + 1 := by simp [bbC, cellsOf_len]
theorem bbC_one (xs : List UInt8) (b : Bool) : (bbC xs b).toArray.all (·.oneCell') = true := one_cells fun v hv => by
  rcases List.mem_append.1 hv with h | h
  · exact one_mem xs v h
  · simp at h; subst h; rfl
/-- a bundle -/
def zb97 : List Value := bbC (List.replicate 96 0) false
theorem bundle_alloc (w : World) : (zeroValue 53).run Tryd.prog w = .ok (.agg (bbC (List.replicate 96 0) false).toArray) w := by kernel_rfl
theorem zb_split : bbC (List.replicate 96 0) false = cellsOf (List.replicate 32 0) ++ (cellsOf (List.replicate 32 0) ++ (cellsOf (List.replicate 32 0) ++ [.bool false])) := by
  rw [bbC, show List.replicate 96 (0 : UInt8) = List.replicate 32 0 ++ (List.replicate 32 0 ++ List.replicate 32 0) by decide, cellsOf_app, cellsOf_app, List.append_assoc, List.append_assoc]
theorem bundle_fill : ∃ pl : Nat → Option (Nat × Nat), (pl 0 = some (0, 32) ∧ pl 1 = some (32, 32) ∧ pl 2 = some (64, 32) ∧ pl 3 = some (96, 1)) ∧ ∀ ps, Tryd.prog.built 53 ps = Instr.fill pl (bbC (List.replicate 96 0) false).toArray ps :=
  ⟨(#[(0, 32), (32, 32), (64, 32), (96, 1)][·]?), ⟨rfl, rfl, rfl, rfl⟩, fun ps => by kernel_rfl⟩
theorem cl32 {x : List UInt8} (h : x.length = 32) : (cellsOf (List.replicate 32 0)).length = (cellsOf x).length := by rw [cellsOf_len, cellsOf_len, h]; rfl
theorem sz32 {x : List UInt8} (h : x.length = 32) : (Value.agg (cellsOf x).toArray).cells.size = 32 := by rw [cells_agg, List.size_toArray, cellsOf_len, h]
theorem bundle2 {i s : List UInt8} (hi : i.length = 32) (hs : s.length = 32) : Tryd.prog.built 53 [(0, .agg (cellsOf i).toArray), (1, .agg (cellsOf s).toArray)] = some (bbC (i ++ (s ++ List.replicate 32 0)) false).toArray := by
  obtain ⟨pl, ⟨q0, q1, q2, q3⟩, hp⟩ := bundle_fill
  have lz : (cellsOf (List.replicate 32 0)).length = 32 := by rw [cellsOf_len]; rfl
  rw [hp, zb_split, fill_step q0 (sz32 hi) (by simp [cellsOf_len]), cells_agg, splice_zero (by simpa using cl32 hi), fill_step q1 (sz32 hs) (by simp [cellsOf_len, hi]), cells_agg,
    splice_mid (by simp [cellsOf_len, hi]) (by simpa using cl32 hs)]
  simp [Instr.fill, bbC, cellsOf_app]
theorem bundle3 {i s : List UInt8} {h : Bool} (hi : i.length = 32) (hs : s.length = 32) : Tryd.prog.built 53 [(0, .agg (cellsOf i).toArray), (1, .agg (cellsOf s).toArray), (3, .bool h)] = some (bbC (i ++ (s ++ List.replicate 32 0)) h).toArray := by
  obtain ⟨pl, ⟨q0, q1, q2, q3⟩, hp⟩ := bundle_fill
  rw [hp, zb_split, fill_step q0 (sz32 hi) (by simp [cellsOf_len]), cells_agg, splice_zero (by simpa using cl32 hi), fill_step q1 (sz32 hs) (by simp [cellsOf_len, hi]), cells_agg,
    splice_mid (by simp [cellsOf_len, hi]) (by simpa using cl32 hs)]
  have e : cellsOf i ++ (cellsOf s ++ (cellsOf (List.replicate 32 0) ++ [Value.bool false])) = (cellsOf i ++ (cellsOf s ++ cellsOf (List.replicate 32 0))) ++ ([Value.bool false] ++ []) := by simp
  simp only [List.toList_toArray]
  rw [e, fill_step q3 rfl (by simp [cellsOf_len, hi, hs]), cells_bool, splice_mid (by simp [cellsOf_len, hi, hs]) (by simp)]
  simp [Instr.fill, bbC, cellsOf_app]
end Go.Proofs.YtbnjmmefnjoofaaDoor
end

section
/-
  Numbers as bytes, and back: plain mathematics.
-/
namespace Go.Proofs.YtbnjmmefnjoofaaDoor
open Go.ChangeShapes Go.WideShapes Go.ChangeAt Go.RowKit Go.Deep

def numN (xs : List UInt8) (k : Nat) : Nat := ofLowL (xs.take k).reverse
theorem ofLowL_lowL : ∀ (m n : Nat), ofLowL (lowL n m) = n % 256 ^ m
  | 0, n => by simp [lowL, ofLowL, Nat.mod_one]
  | m + 1, n => by
    have h : lowL n (m + 1) = UInt8.ofNat n :: lowL (n / 256) m := by
      unfold lowL
      rw [List.range_succ_eq_map, List.map_cons, List.map_map]
      congr 1
      · simp
      · apply List.map_congr_left
        intro k _
        simp only [Function.comp, Nat.succ_eq_add_one]
        rw [Nat.pow_succ, Nat.mul_comm, Nat.div_div_eq_div_mul]
    have hp : 256 ^ (m + 1) = 256 * 256 ^ m := (Nat.pow_succ 256 m).trans (Nat.mul_comm _ _)
    rw [h, ofLowL, ofLowL_lowL m (n / 256), UInt8.toNat_ofNat', hp, Nat.mod_mul]
theorem lowL_ofLowL : ∀ (xs : List UInt8), lowL (ofLowL xs) xs.length = xs
  | [] => rfl
  | x :: r => by
    have h : ∀ n m, lowL n (m + 1) = UInt8.ofNat n :: lowL (n / 256) m := fun n m => by
      unfold lowL
      rw [List.range_succ_eq_map, List.map_cons, List.map_map]
      congr 1
      · simp
      · apply List.map_congr_left
        intro k _
        simp only [Function.comp, Nat.succ_eq_add_one]
        rw [Nat.pow_succ, Nat.mul_comm, Nat.div_div_eq_div_mul]
    have hx := x.toNat_lt
    rw [List.length_cons, h]
    have e1 : ofLowL (x :: r) = x.toNat + 256 * ofLowL r := rfl
    rw [e1, show (x.toNat + 256 * ofLowL r) / 256 = ofLowL r by omega, lowL_ofLowL r]
    congr 1
    apply UInt8.toNat_inj.1
    rw [UInt8.toNat_ofNat']
    omega
theorem numN_high {n m : Nat} {r : List UInt8} (hn : n < 256 ^ m) : numN ((lowL n m).reverse ++ r) m = n := by
  unfold numN
  rw [List.take_left' (by rw [List.length_reverse, lowL_len]), List.reverse_reverse, ofLowL_lowL, Nat.mod_eq_of_lt hn]
theorem high_numN {xs : List UInt8} {m : Nat} (h : m ≤ xs.length) : (lowL (numN xs m) m).reverse = xs.take m := by
  unfold numN
  have hl : (xs.take m).reverse.length = m := by rw [List.length_reverse, List.length_take]; omega
  have := lowL_ofLowL (xs.take m).reverse
  rw [hl] at this
  rw [this, List.reverse_reverse]
end Go.Proofs.YtbnjmmefnjoofaaDoor
end

section
/-
  Layer 16: the tests of numbers and of stamps, the program's and the document's.
-/
namespace Go.Proofs.YtbnjmmefnjoofaaDoor
open Go.ChangeShapes Go.WideShapes Go.ChangeAt Go.RowKit Go.Deep
set_option maxRecDepth 100000

/-- May a stamp be? -/
def okS (ep f t tm : Int) : Bool := ((upB ep 1000000 && upB tm 1000000) && upB f 7) && upB t 7
theorem isTime_calls {w : World} {z : Int} : Calls Tryd.prog 49 #[.int .i64 z] w fun e w' => e = .returned (.bool (upB z 1000000)) ∧ Ext w w' := by
  by_cases h1 : 0 ≤ z
  · have d1 : decide (0 ≤ z) = true := decide_eq_true h1
    by_cases h2 : z ≤ 1000000
    · have d2 : decide (z ≤ 1000000) = true := decide_eq_true h2
      have d3 : decide (z < 1000001) = true := decide_eq_true (by omega)
      have hb : Hid (upB z 1000000 = true) := by unfold Hid upB; rw [decide_eq_true h1, d2]; rfl
      go_enter Tryd.func49, Tryd.ntmps49
      go_wp2_with fail
      go_ret
      exact ⟨by rw [hb.out]; rfl, Ext.refl _⟩
    · have d2 : decide (z ≤ 1000000) = false := decide_eq_false h2
      have d3 : decide (z < 1000001) = false := decide_eq_false (by omega)
      have hb : Hid (upB z 1000000 = false) := by unfold Hid upB; rw [decide_eq_true h1, d2]; rfl
      go_enter Tryd.func49, Tryd.ntmps49
      go_wp2_with fail
      go_ret
      exact ⟨by rw [hb.out]; rfl, Ext.refl _⟩
  · have d1 : decide (0 ≤ z) = false := decide_eq_false h1
    have hb : Hid (upB z 1000000 = false) := by unfold Hid upB; rw [decide_eq_false h1]; rfl
    go_enter Tryd.func49, Tryd.ntmps49
    go_wp2_with fail
    go_ret
    exact ⟨by rw [hb.out]; rfl, Ext.refl _⟩
theorem isAccount_calls {w : World} {z : Int} : Calls Tryd.prog 76 #[.int .i64 z] w fun e w' => e = .returned (.bool (upB z 7)) ∧ Ext w w' := by
  by_cases h1 : 0 ≤ z
  · have d1 : decide (0 ≤ z) = true := decide_eq_true h1
    by_cases h2 : z ≤ 7
    · have d2 : decide (z ≤ 7) = true := decide_eq_true h2
      have d3 : decide (z < 8) = true := decide_eq_true (by omega)
      have hb : Hid (upB z 7 = true) := by unfold Hid upB; rw [decide_eq_true h1, d2]; rfl
      go_enter Tryd.func76, Tryd.ntmps76
      go_wp2_with fail
      go_ret
      exact ⟨by rw [hb.out]; rfl, Ext.refl _⟩
    · have d2 : decide (z ≤ 7) = false := decide_eq_false h2
      have d3 : decide (z < 8) = false := decide_eq_false (by omega)
      have hb : Hid (upB z 7 = false) := by unfold Hid upB; rw [decide_eq_true h1, d2]; rfl
      go_enter Tryd.func76, Tryd.ntmps76
      go_wp2_with fail
      go_ret
      exact ⟨by rw [hb.out]; rfl, Ext.refl _⟩
  · have d1 : decide (0 ≤ z) = false := decide_eq_false h1
    have hb : Hid (upB z 7 = false) := by unfold Hid upB; rw [decide_eq_false h1]; rfl
    go_enter Tryd.func76, Tryd.ntmps76
    go_wp2_with fail
    go_ret
    exact ⟨by rw [hb.out]; rfl, Ext.refl _⟩
theorem rTime_calls {w : World} {z : Int} : Calls Tryd.prog 58 #[.int .i64 z] w fun e w' => e = .returned (.bool (upB z 1000000)) ∧ Ext w w' := by
  by_cases h1 : 0 ≤ z
  · have d1 : decide (0 ≤ z) = true := decide_eq_true h1
    by_cases h2 : z ≤ 1000000
    · have d2 : decide (z ≤ 1000000) = true := decide_eq_true h2
      have d3 : decide (z < 1000001) = true := decide_eq_true (by omega)
      have hb : Hid (upB z 1000000 = true) := by unfold Hid upB; rw [decide_eq_true h1, d2]; rfl
      go_enter Tryd.func58, Tryd.ntmps58
      go_wp2_with fail
      go_ret
      exact ⟨by rw [hb.out]; rfl, Ext.refl _⟩
    · have d2 : decide (z ≤ 1000000) = false := decide_eq_false h2
      have d3 : decide (z < 1000001) = false := decide_eq_false (by omega)
      have hb : Hid (upB z 1000000 = false) := by unfold Hid upB; rw [decide_eq_true h1, d2]; rfl
      go_enter Tryd.func58, Tryd.ntmps58
      go_wp2_with fail
      go_ret
      exact ⟨by rw [hb.out]; rfl, Ext.refl _⟩
  · have d1 : decide (0 ≤ z) = false := decide_eq_false h1
    have hb : Hid (upB z 1000000 = false) := by unfold Hid upB; rw [decide_eq_false h1]; rfl
    go_enter Tryd.func58, Tryd.ntmps58
    go_wp2_with fail
    go_ret
    exact ⟨by rw [hb.out]; rfl, Ext.refl _⟩
theorem raccount_calls {w : World} {z : Int} : Calls Tryd.prog 83 #[.int .i64 z] w fun e w' => e = .returned (.bool (upB z 7)) ∧ Ext w w' := by
  by_cases h1 : 0 ≤ z
  · have d1 : decide (0 ≤ z) = true := decide_eq_true h1
    by_cases h2 : z ≤ 7
    · have d2 : decide (z ≤ 7) = true := decide_eq_true h2
      have d3 : decide (z < 8) = true := decide_eq_true (by omega)
      have hb : Hid (upB z 7 = true) := by unfold Hid upB; rw [decide_eq_true h1, d2]; rfl
      go_enter Tryd.func83, Tryd.ntmps83
      go_wp2_with fail
      go_ret
      exact ⟨by rw [hb.out]; rfl, Ext.refl _⟩
    · have d2 : decide (z ≤ 7) = false := decide_eq_false h2
      have d3 : decide (z < 8) = false := decide_eq_false (by omega)
      have hb : Hid (upB z 7 = false) := by unfold Hid upB; rw [decide_eq_true h1, d2]; rfl
      go_enter Tryd.func83, Tryd.ntmps83
      go_wp2_with fail
      go_ret
      exact ⟨by rw [hb.out]; rfl, Ext.refl _⟩
  · have d1 : decide (0 ≤ z) = false := decide_eq_false h1
    have hb : Hid (upB z 7 = false) := by unfold Hid upB; rw [decide_eq_false h1]; rfl
    go_enter Tryd.func83, Tryd.ntmps83
    go_wp2_with fail
    go_ret
    exact ⟨by rw [hb.out]; rfl, Ext.refl _⟩
set_option maxHeartbeats 2000000 in
theorem valid16_calls {w : World} {ep f t tm : Int} {cm tg : List UInt8} : Calls Tryd.prog 48 #[.agg (stC ep f t tm cm tg).toArray] w fun e w' => e = .returned (.bool (okS ep f t tm)) ∧ Ext w w' := by
  have TI : Hid (∀ (W : World) (z : Int), Calls Tryd.prog 49 #[.int .i64 z] W fun e w' => e = .returned (.bool (upB z 1000000)) ∧ Ext W w') := fun W z => isTime_calls
  have AC : Hid (∀ (W : World) (z : Int), Calls Tryd.prog 76 #[.int .i64 z] W fun e w' => e = .returned (.bool (upB z 7)) ∧ Ext W w') := fun W z => isAccount_calls
  have c0 : Hid ((stC ep f t tm cm tg)[0]? = some (.int .i64 ep)) := rfl
  have c1 : Hid ((stC ep f t tm cm tg)[1]? = some (.int .i64 f)) := rfl
  have c2 : Hid ((stC ep f t tm cm tg)[2]? = some (.int .i64 t)) := rfl
  have c3 : Hid ((stC ep f t tm cm tg)[3]? = some (.int .i64 tm)) := rfl
  have hR : Hid (okS ep f t tm = (((upB ep 1000000 && upB tm 1000000) && upB f 7) && upB t 7)) := rfl
  generalize okS ep f t tm = ok at *
  generalize stC ep f t tm cm tg = st at *
  have B0 : Hid (Cb (w.alloc (Obj.cells st.toArray 67)) w.heap.size 67 st ∧ Ext w (w.alloc (Obj.cells st.toArray 67))) := ⟨Cb.new _ _ _, (Ext.refl w).alloc _⟩
  go_enter Tryd.func48, Tryd.ntmps48
  go_upto_region 1 with fail
  refine wp_gen (fun W => Cb W w.heap.size 67 st ∧ Ext w W) B0.out ?_
  clear B0
  rintro w0 ⟨k0, x0⟩
  have b0 := k0.cell c0.out
  replace k0 := Lib.hid k0
  replace x0 := Lib.hid x0
  go_wp2_with fail
  refine (TI.out _ _).mono ?_
  rintro e w1 ⟨rfl, e1⟩
  have k1 := Lib.hid (k0.out.ext e1)
  have b1 := k1.out.cell c3.out
  have x1 := Lib.hid (x0.out.trans e1)
  clear b0 k0 x0 e1
  rcases h1 : upB ep 1000000 with _ | _
  · have hR2 : Hid (ok = false) := by unfold Hid; rw [hR.out, h1]; rfl
    clear b1 hR h1
    go_wp2_with fail
    go_ret
    exact ⟨by rw [hR2.out]; rfl, x1.out⟩
  replace h1 := Lib.hid h1
  go_wp2_with fail
  refine (TI.out _ _).mono ?_
  rintro e w2 ⟨rfl, e2⟩
  have k2 := Lib.hid (k1.out.ext e2)
  have b2 := k2.out.cell c1.out
  have x2 := Lib.hid (x1.out.trans e2)
  clear b1 k1 x1 e2
  rcases h2 : upB tm 1000000 with _ | _
  · have hR2 : Hid (ok = false) := by unfold Hid; rw [hR.out, h1.out, h2]; rfl
    clear b2 hR h1 h2
    go_wp2_with fail
    go_ret
    exact ⟨by rw [hR2.out]; rfl, x2.out⟩
  replace h2 := Lib.hid h2
  go_wp2_with fail
  refine (AC.out _ _).mono ?_
  rintro e w3 ⟨rfl, e3⟩
  have k3 := Lib.hid (k2.out.ext e3)
  have b3 := k3.out.cell c2.out
  have x3 := Lib.hid (x2.out.trans e3)
  clear b2 k2 x2 e3
  rcases h3 : upB f 7 with _ | _
  · have hR2 : Hid (ok = false) := by unfold Hid; rw [hR.out, h1.out, h2.out, h3]; rfl
    clear b3 hR h1 h2 h3
    go_wp2_with fail
    go_ret
    exact ⟨by rw [hR2.out]; rfl, x3.out⟩
  have hR2 : Hid (upB t 7 = ok) := by unfold Hid; rw [hR.out, h1.out, h2.out, h3]; rfl
  clear hR h1 h2 h3
  go_wp2_with fail
  refine (AC.out _ _).mono ?_
  rintro e w4 ⟨rfl, e4⟩
  have x4 := Lib.hid (x3.out.trans e4)
  rw [hR2.out]
  clear b3 k3 x3 e4 hR2
  go_wp2_with fail
  go_ret
  exact ⟨rfl, x4.out⟩
end Go.Proofs.YtbnjmmefnjoofaaDoor
end

section
/-
  Words are copied.
-/
namespace Go.Proofs.YtbnjmmefnjoofaaDoor
open Go.ChangeShapes Go.WideShapes Go.ChangeAt Go.RowKit Go.Deep
set_option maxRecDepth 100000

theorem wcells_len (vs : List Nat) : (wcells vs).length = vs.length := by simp [wcells]
theorem wcells_get {vs : List Nat} {j : Nat} (h : j < vs.length) : (wcells vs)[j]? = some (.int .u32 (wd vs j : Int)) := by simp [wcells, wd, List.getD, h]
theorem wcells_splice (xs ys : List Nat) (o : Nat) : splice (wcells xs) o (wcells ys) = wcells (splice xs o ys) := by simp [wcells, splice]

/-- All words of block b are copied into block g. -/
theorem upon_copyW {o : Oper} {a : Act} {K : Act → World → Prop} {Q : Exit → Act → World → Prop} {W : World} {b g off dLen dCap : Nat} {us vs : List Nat} {t t' dT sT ty : TypeId} {n c : Nat} (hu : Tryd.prog.underlying dT = some (.slice 134)) (hg : Wr W g t us) (hb : Wr W b t' vs) (hn : vs.length = n) (hd : n ≤ dLen) (hfit : off + n ≤ us.length)
    (H : ∀ W', Hid (Wr W' g t (splice us off vs)) → Hid (∀ B, B ≤ g → Below B W W') → Oper.upon Tryd.prog o a K Q (.ok (Next.value (goInt n)) W')) :
    Oper.upon Tryd.prog o a K Q (((Builtin.copy_ #[dT, sT] ty #[.slice (some ⟨g, off, none⟩) dLen dCap, .slice (some ⟨b, 0, none⟩) n c]).run Tryd.prog W).andThen fun a w' => .ok (Next.value a) w') := by
  have hsz : (Tryd.prog.info? 134).map (·.size) = some 1 := rfl
  have hr := run_copy_row Tryd.prog W dT sT ty _ g off dLen dCap ⟨b, 0, none⟩ n c (wcells us).toArray t (wcells vs) hu hsz hg (by rw [wcells_len, hn]; exact (Nat.min_eq_left hd).symm) (fun j v hv => by
    have hj : j < vs.length := by
      rcases Nat.lt_or_ge j vs.length with q | q
      · exact q
      · rw [List.getElem?_eq_none (by rw [wcells_len]; exact q)] at hv; cases hv
    rw [wcells_get hj] at hv
    injection hv with hv
    subst hv
    have : (⟨b, 0, none⟩ : Addr).add j = ⟨b, j, none⟩ := by unfold Addr.add; split <;> simp_all
    rw [this]
    exact hb.cell hj) (by rw [wcells_len]; simp [wcells]; omega) (fun v hv => by
    obtain ⟨j, _, rfl⟩ := List.mem_map.1 hv
    rfl)
  rw [wcells_len, hn] at hr
  rw [hr]
  refine H _ ?_ (fun B hB => below_setRow (Below.refl _ _) hB _)
  have := setRow_heap W g _ (((wcells us).take off ++ wcells vs ++ (wcells us).drop (off + n)).toArray) t _ hg
  show _ = _
  rw [← wcells_splice]
  simpa [splice, wcells_len, hn, List.append_assoc] using this
end Go.Proofs.YtbnjmmefnjoofaaDoor
end

section
/-
  bits.RotateLeft32 by -16, -12, -8, -7.
-/
namespace Go.Proofs.YtbnjmmefnjoofaaDoor
open Go.ChangeShapes Go.WideShapes Go.ChangeAt Go.RowKit Go.Deep

theorem rotr_int {n x : Nat} (hn : n ≤ 32) (hx : x < 4294967296) : bits .or .u32 ((x : Int) * 2 ^ (32 - n) % 4294967296) ((x : Int) / 2 ^ n) = (rotr n x : Int) := by
  have h1 : (x : Int) * 2 ^ (32 - n) % 4294967296 = ((x * 2 ^ (32 - n) % 4294967296 : Nat) : Int) := by simp
  have h2 : (x : Int) / 2 ^ n = ((x / 2 ^ n : Nat) : Int) := by simp
  rw [h1, h2, u32_or_nat _ _ (Nat.mod_lt _ (by omega)) (Nat.lt_of_le_of_lt (Nat.div_le_self _ _) hx)]
  rfl

set_option maxHeartbeats 1000000 in
theorem rot_calls {n x : Nat} {k : Int} {w : World} (hx : x < 4294967296) (hk : bits .and .u64 (IntKind.u64.wrap k) 31 = ((32 - n : Nat) : Int)) (h1 : 1 ≤ n) (h2 : n ≤ 31) :
    Calls Tryd.prog 100 #[.int .u32 (x : Int), .int .i64 k] w fun e w' => e = .returned (.int .u32 (rotr n x : Int)) ∧ w' = w := by
  have hs : ∃ s : Nat, 32 - n = s ∧ s ≤ 31 ∧ n = 32 - s := ⟨32 - n, rfl, by omega, by omega⟩
  obtain ⟨s, e1, e2, e3⟩ := hs
  have hf := Lib.hid (rotr_int (n := n) (by omega) hx)
  rw [e1] at hk hf
  have hd : IntKind.u64.wrap (32 - (s : Int)) = (n : Int) := by rw [IntWalk.u64_in _ (by omega)]; omega
  go_enter Tryd.func100, Tryd.ntmps100
  go_wp2_with fail
  go_ret
  refine ⟨congrArg (fun v => Ending.returned (Value.int .u32 v)) (Eq.trans ?_ hf.out), rfl⟩
  rw [e3]
theorem rot16 {x : Nat} {w : World} (hx : x < 4294967296) :
    Calls Tryd.prog 100 #[.int .u32 (x : Int), .int .i64 (-16)] w fun e w' => e = .returned (.int .u32 (rotr 16 x : Int)) ∧ w' = w := rot_calls hx (by decide) (by omega) (by omega)
theorem rot12 {x : Nat} {w : World} (hx : x < 4294967296) :
    Calls Tryd.prog 100 #[.int .u32 (x : Int), .int .i64 (-12)] w fun e w' => e = .returned (.int .u32 (rotr 12 x : Int)) ∧ w' = w := rot_calls hx (by decide) (by omega) (by omega)
theorem rot8 {x : Nat} {w : World} (hx : x < 4294967296) :
    Calls Tryd.prog 100 #[.int .u32 (x : Int), .int .i64 (-8)] w fun e w' => e = .returned (.int .u32 (rotr 8 x : Int)) ∧ w' = w := rot_calls hx (by decide) (by omega) (by omega)
theorem rot7 {x : Nat} {w : World} (hx : x < 4294967296) :
    Calls Tryd.prog 100 #[.int .u32 (x : Int), .int .i64 (-7)] w fun e w' => e = .returned (.int .u32 (rotr 7 x : Int)) ∧ w' = w := rot_calls hx (by decide) (by omega) (by omega)
theorem rotl16 {x : Nat} {w : World} (hx : x < 4294967296) :
    Calls Tryd.prog 100 #[.int .u32 (x : Int), .int .i64 16] w fun e w' => e = .returned (.int .u32 (rotr 16 x : Int)) ∧ w' = w := rot_calls hx (by decide) (by omega) (by omega)
theorem rotl12 {x : Nat} {w : World} (hx : x < 4294967296) :
    Calls Tryd.prog 100 #[.int .u32 (x : Int), .int .i64 12] w fun e w' => e = .returned (.int .u32 (rotr 20 x : Int)) ∧ w' = w := rot_calls hx (by decide) (by omega) (by omega)
theorem rotl8 {x : Nat} {w : World} (hx : x < 4294967296) :
    Calls Tryd.prog 100 #[.int .u32 (x : Int), .int .i64 8] w fun e w' => e = .returned (.int .u32 (rotr 24 x : Int)) ∧ w' = w := rot_calls hx (by decide) (by omega) (by omega)
theorem rotl7 {x : Nat} {w : World} (hx : x < 4294967296) :
    Calls Tryd.prog 100 #[.int .u32 (x : Int), .int .i64 7] w fun e w' => e = .returned (.int .u32 (rotr 25 x : Int)) ∧ w' = w := rot_calls hx (by decide) (by omega) (by omega)
end Go.Proofs.YtbnjmmefnjoofaaDoor
end
