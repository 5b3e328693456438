import Derived.Test.YtbnjmmefnjoofaaDoorRy3
import Derived.Test.YtbnjmmefnjoofaaDoorKeyEq
section
/-
  (*relay.Relay).Register.
-/
namespace Go.Proofs.YtbnjmmefnjoofaaDoor
open Go.ChangeShapes Go.WideShapes Go.ChangeAt Go.RowKit Go.Deep Go.Maps
set_option maxRecDepth 100000

section
variable {B g ticks N : Nat} {w : World} {root : List UInt8} {f : Nat → Option Ac}
/-- The one that is registered. -/
def newA (lk ib sb : List UInt8) (A : Option Addr) (n c : Nat) (K : List (List UInt8)) (bx tk : Nat) : Ac := ⟨lk, ib, sb, A, n, c, K, bx, tk, false, [], 0, 0, 5⟩
theorem RY.reg (h : RY B w g root ticks f N) (hB : B ≤ w.heap.size) {lk ib sb : List UInt8} {A : Option Addr} {n c : Nat} {K : List (List UInt8)} {bx tk j : Nat} {w2 : World} (hn : (newA lk ib sb A n c K bx tk).new w w2) (j8 : j < 8) (hf : f j = none) :
    RY B (w2.setCells g (1 + j * 134) (newA lk ib sb A n c K bx tk).C) g root ticks (upd f j (some (newA lk ib sb A n c K bx tk))) N ∧ Tm B tagY w (w2.setCells g (1 + j * 134) (newA lk ib sb A n c K bx tk).C) ∧ w2.there g (1 + j * 134) 134 := by
  obtain ⟨s, mb, q, own, EE, h⟩ := h
  obtain ⟨ln, ks, mbp, bk, ⟨b1, b2⟩, x⟩ := hn
  have h2 := h.ext x
  have hx : w2.grownBy (w2.setCells g (1 + j * 134) (newA lk ib sb A n c K bx tk).C) (some g) := grown_setCells
  have hput := h2.cb.put (z := (newA lk ib sb A n c K bx tk).C) (rC_split s f j8) (rCp_len h2.fok j) (by rw [oC_len h2.fok, Ac.C_len ln])
  rw [← show rC s (upd f j (some (newA lk ib sb A n c K bx tk))) = rCp s f j ++ ((newA lk ib sb A n c K bx tk).C ++ rCq f j) from rC_upd s f _ j8] at hput
  have hth : w2.there g (1 + j * 134) 134 := h2.cb.there (by
    rw [rC_split s f j8, List.length_append, List.length_append, rCp_len h2.fok, oC_len h2.fok]
    omega)
  have KO : ∀ i l, fresh own w j i = some l → B ≤ i := fun i l hi => by
    by_cases e : i < w.heap.size
    · rw [fresh_old e] at hi; exact h.ow i l hi
    · omega
  have := h2.row (f' := upd f j (some (newA lk ib sb A n c K bx tk))) (own' := fresh own w j) (Nat.le_refl N) hput hx (fun l a hl => by
    by_cases e : l = j
    · subst e
      rw [upd_same] at hl
      injection hl with hl
      subst hl
      have z : (newA lk ib sb A n c K bx tk).at (fresh own w l) l N w2 := ⟨ln, ks, mbp _, fresh_new b1, bk, ⟨by decide, by decide, by decide, by decide, by show (0 : Int) ≤ 0; decide, by show (0 : Int) ≤ 1000000; decide, by show (0 : Int) ≤ 5; decide, by show (5 : Int) ≤ 5; decide⟩, fresh_new b2, ⟨Nat.zero_le _, by show (0 : Int) ≤ 0; decide, by show (0 : Int) ≤ N; omega⟩⟩
      exact z.row h2.cb hx
    · rw [upd_other _ _ e] at hl
      have z := (h.ac l a hl).keep (own' := fresh own w j) (w' := w2) (fun i hi y => (fresh_old hi).trans y) (Nat.le_refl N) fun i cs t y _ => (x.block _ (heap_lt y)).trans y
      exact z.row h2.cb hx) KO
  exact ⟨⟨s, mb, q, _, EE, this.1⟩, (Tm.of_ext x).trans this.2, hth⟩

variable {lk ib sb ob : List UInt8} {ho : Bool} {A : Option Addr} {m c : Nat} {K : List (List UInt8)}
theorem two_box (w : World) (ls BC : List Value) : Ext w ((w.alloc (.cells ls.toArray 23)).alloc (.cells BC.toArray 53)) := ((Ext.refl w).alloc _).alloc _
set_option maxHeartbeats 4000000 in
theorem register_arg {n : Int} {bun : List Value} (h : n < 0 ∨ 8 ≤ n ∨ 8 < m) (h1 : -9223372036854775808 ≤ n) (h2 : n ≤ 9223372036854775807) (hm : m ≤ 9223372036854775807) : Calls Tryd.prog 17 #[.pointer (some ⟨g, 0, none⟩), .int .i64 n, .agg (cellsOf lk).toArray, .agg bun.toArray, .slice A m c] w fun e w' => e = .returned (.int .i64 1) ∧ Ext w w' := by
  have X := Lib.hid (two_box w (cellsOf lk) bun)
  by_cases q1 : n < 0
  · have u1 : decide (n < 0) = true := decide_eq_true q1
    clear h
    go_enter Tryd.func17, Tryd.ntmps17
    go_wp2_with fail
    go_ret
    exact ⟨rfl, X.out⟩
  have u1 : decide (n < 0) = false := decide_eq_false q1
  by_cases q2 : 8 ≤ n
  · have u2 : decide (8 ≤ n) = true := decide_eq_true q2
    clear h
    go_enter Tryd.func17, Tryd.ntmps17
    go_wp2_with fail
    go_ret
    exact ⟨rfl, X.out⟩
  have u2 : decide (8 ≤ n) = false := decide_eq_false q2
  have q3 : 8 < m := by omega
  have u3 : decide ((8 : Int) < (m : Int)) = true := decide_eq_true (by omega)
  clear h
  go_enter Tryd.func17, Tryd.ntmps17
  go_wp2_with fail
  go_ret
  exact ⟨rfl, X.out⟩
set_option maxHeartbeats 4000000 in
theorem register_twice {bun : List Value} (h : RY B w g root ticks f N) {j : Nat} {a : Ac} (hj : f j = some a) (j8 : j < 8) (m8 : m ≤ 8) : Calls Tryd.prog 17 #[.pointer (some ⟨g, 0, none⟩), .int .i64 (j : Int), .agg (cellsOf lk).toArray, .agg bun.toArray, .slice A m c] w fun e w' => e = .returned (.int .i64 9) ∧ Ext w w' := by
  have X := Lib.hid (two_box w (cellsOf lk) bun)
  have c0 := (h.ext X.out).at hj j8 (a.a0 (h.lens hj)).1
  rw [Nat.add_zero] at c0
  have u1 : decide ((j : Int) < 0) = false := decide_eq_false (by omega)
  have u2 : decide (8 ≤ (j : Int)) = false := decide_eq_false (by omega)
  have u3 : decide ((8 : Int) < (m : Int)) = false := decide_eq_false (by omega)
  clear h hj
  go_enter Tryd.func17, Tryd.ntmps17
  go_wp2_with fail
  go_ret
  exact ⟨rfl, X.out⟩
set_option maxHeartbeats 4000000 in
theorem register_ok (h : RY B w g root ticks f N) (hB : B ≤ w.heap.size) {j : Nat} (hj : f j = none) (j8 : j < 8) (m8 : m ≤ 8) (h1 : lk.length = 32) (h2 : ib.length = 32) (h3 : sb.length = 32) (h4 : ob.length = 32) (hK : Cs w 32 A m c (K.map cellsOf)) : Calls Tryd.prog 17 #[.pointer (some ⟨g, 0, none⟩), .int .i64 (j : Int), .agg (cellsOf lk).toArray, .agg (bbC (ib ++ (sb ++ ob)) ho).toArray, .slice A m c] w fun e w' => e = .returned (.int .i64 0) ∧ (∃ A' c' bx tk, RY B w' g root ticks (upd f j (some (newA lk ib sb A' m c' K bx tk))) N) ∧ Tm B tagY w w' := by
  have L_b : (bbC (ib ++ (sb ++ ob)) ho).length = 97 := by rw [bbC_len]; simp [h2, h3, h4]
  have RG : Hid (∀ W : World, Ext w W → Calls Tryd.prog 38 #[.agg (cellsOf lk).toArray, .agg (bbC (ib ++ (sb ++ ob)) ho).toArray, .slice A m c] W fun e w' => ∃ (A' : Option Addr) (c' bx tk : Nat), e = .returned (.agg (newA lk ib sb A' m c' K bx tk).C.toArray) ∧ (newA lk ib sb A' m c' K bx tk).new W w') := fun W e => registered_calls (ho := ho) (w := W) h1 h2 h3 h4 (hK.ext e) m8
  generalize bbC (ib ++ (sb ++ ob)) ho = BC at *
  have X := Lib.hid (two_box w (cellsOf lk) BC)
  have S_k : (cellsOf lk).toArray.size = 32 := by simp [cellsOf_len, h1]
  have S_b : BC.toArray.size = 97 := by rw [List.size_toArray, L_b]
  have ln : ∀ A' c' bx tk, (newA lk ib sb A' m c' K bx tk).lens := fun _ _ _ _ => ⟨h1, h2, h3⟩
  replace ln := Lib.hid ln
  obtain ⟨r, hr⟩ : ∃ x, x = w.heap.size := ⟨_, rfl⟩
  have B0 : Hid (Ky ((w.alloc (.cells (cellsOf lk).toArray 23)).alloc (.cells BC.toArray 53)) r lk ∧ Cb ((w.alloc (.cells (cellsOf lk).toArray 23)).alloc (.cells BC.toArray 53)) (r + 1) 53 BC ∧ Ext w ((w.alloc (.cells (cellsOf lk).toArray 23)).alloc (.cells BC.toArray 53))) := by
    rw [hr]; exact ⟨⟨heap_alloc1 _ _ _, h1⟩, heap_alloc2 _ _ _, X.out⟩
  have glt : g < w.heap.size := by
    obtain ⟨s, hc⟩ := h.cells
    exact hc.lt
  have u1 : decide ((j : Int) < 0) = false := decide_eq_false (by omega)
  have u2 : decide (8 ≤ (j : Int)) = false := decide_eq_false (by omega)
  have u3 : decide ((8 : Int) < (m : Int)) = false := decide_eq_false (by omega)
  have jj : ¬ ((j : Int) < 0) := by omega
  have ji : (j : Int) < 8 := by omega
  have jnn : (0 : Int) ≤ (j : Int) := by omega
  replace h := Lib.hid h
  replace hj := Lib.hid hj
  go_enter Tryd.func17, Tryd.ntmps17
  go_upto_region 1 with fail
  refine wp_gen (fun W => Ky W r lk ∧ Cb W (r + 1) 53 BC ∧ Ext w W) B0.out ?_
  rw [← hr]
  have wr : w.heap.size ≤ r := Nat.le_of_eq hr.symm
  replace hr := Lib.hid hr
  clear B0 X
  rintro w0 ⟨k0, k1, x0⟩
  have c0 : w0.cell? ⟨g, 1 + j * 134 + 0, none⟩ = some (.bool false) := by
    obtain ⟨s, hc⟩ := (h.out.ext x0).cells
    exact hc.cell (rC_cell h.out.fok j8 (by rw [hj.out]; rfl))
  rw [Nat.add_zero] at c0
  have F : Hid (∀ s, w0.drew.grownBy s (some g) → Ky s r lk ∧ s.heap[r + 1]? = some (.cells BC.toArray 53 (0, 0))) := fun s e => by
    refine ⟨⟨(e.block _ (heap_lt k0.1) (fun z => ?_)).trans k0.1, h1⟩, (e.block _ (heap_lt k1) (fun z => ?_)).trans k1⟩
    · have := Option.some.inj z; omega
    · have := Option.some.inj z; omega
  have RG0 := Lib.hid (RG.out w0.drew x0.drew)
  have H0 : Hid (RY B w0.drew g root ticks f N) := h.out.ext x0.drew
  have X0 : Hid (Ext w w0.drew) := x0.drew
  have z0 : Hid (B ≤ w0.drew.heap.size) := Nat.le_trans hB x0.size
  clear k0 k1 x0 RG hK
  go_wp2_with fail
  refine qgW g [0, 1, 2, 3, 4, 6, 7, 5, 8, 9] [5, 9] ?_
  generalize w0.drew = V at *
  iterate 2 ((first | refine qR0 ?_ | refine qS ?_); go_frame)
  refine qV rfl (fun w' => w'.heap[r]? = some (.cells (cellsOf lk).toArray 23 (0, 0))) (fun w' e => (F.out w' e).1.1) (.agg (cellsOf lk).toArray) (fun w' hF => exec_load_row rfl rfl hF rfl rfl (by rw [S_k]; rfl)) ?_
  go_frame
  refine qV rfl (fun w' => w'.heap[(r + 1)]? = some (.cells BC.toArray 53 (0, 0))) (fun w' e => (F.out w' e).2) (.agg BC.toArray) (fun w' hF => exec_load_row rfl rfl hF rfl rfl (by rw [S_b]; rfl)) ?_
  go_frame
  iterate 3 ((first | refine qR0 ?_ | refine qS ?_); go_frame)
  refine qD fun K_ hK => ?_
  go_simp
  refine RG0.out.mono ?_
  rintro e w1 ⟨A1, c1, bx, tk, rfl, n1⟩
  have L1 := Ac.C_len (ln.out A1 c1 bx tk)
  have O1 : (newA lk ib sb A1 m c1 K bx tk).C.toArray.all (·.oneCell') = true := one_cells (acL_one rfl rfl rfl)
  obtain ⟨r1, r2, r3⟩ := H0.out.reg z0.out n1 j8 hj.out
  have x1 : Hid (Ext V w1) := n1.2.2.2.2.2
  have FIN : Hid ((∃ A' c' x' y', RY B (w1.setCells g (1 + j * 134) (newA lk ib sb A1 m c1 K bx tk).C) g root ticks (upd f j (some (newA lk ib sb A' m c' K x' y'))) N) ∧ Tm B tagY w (w1.setCells g (1 + j * 134) (newA lk ib sb A1 m c1 K bx tk).C)) := ⟨⟨A1, c1, bx, tk, r1⟩, (Tm.of_ext X0.out).trans r2⟩
  replace r3 := Lib.hid r3
  clear r1 r2 n1 RG0 H0 z0 F ln
  refine hK.out _ _ (grown_ofE16 x1.out) ?_
  clear hK K_
  try go_frame
  generalize (newA lk ib sb A1 m c1 K bx tk).C = NC at *
  have S_n : NC.toArray.size = 134 := by rw [List.size_toArray, L1]
  repeat ((first | refine qR _ (fun w' e => (And.intro j8 (And.intro ji jnn))) ?_ | refine qS ?_); go_frame)
  refine qD fun K_ hK => ?_
  refine wp_store_mid 83 _ _ rfl g (1 + j * 134) NC.toArray rfl rfl (by rw [S_n]; exact r3.out) (by rw [S_n]; rfl) O1 ?_
  refine hK.out _ _ grown_setCells ?_
  clear hK K_
  try simp only [Act.put]
  refine seq_done ?_
  refine gen_q (fun W => (∃ A' c' bx tk, RY B W g root ticks (upd f j (some (newA lk ib sb A' m c' K bx tk))) N) ∧ Tm B tagY w W) FIN.out ?_
  clear FIN r3
  rintro w2 q2
  replace q2 := Lib.hid q2
  go_wp2_with fail
  go_ret
  exact ⟨rfl, q2.out⟩
end
end Go.Proofs.YtbnjmmefnjoofaaDoor
end

section
/-
  A bit of a key is turned.
-/
namespace Go.Proofs.YtbnjmmefnjoofaaDoor
open Go.ChangeShapes Go.WideShapes Go.ChangeAt Go.RowKit Go.Deep

theorem UInt8.xor_ne {x : Nat} {k : Nat} (hk : k < 8) (hx : x < 256) : x ^^^ 2 ^ k ≠ x := by
  intro h
  have : x ^^^ (x ^^^ 2 ^ k) = x ^^^ x := by rw [h]
  rw [← Nat.xor_assoc, Nat.xor_self, Nat.zero_xor] at this
  have := Nat.pos_of_ne_zero (n := 2 ^ k) (by have := Nat.two_pow_pos k; omega)
  omega

/-- A bit of a byte is turned. -/
def flip (xs : List UInt8) (j k : Nat) : List UInt8 := xs.set j (UInt8.ofNat (bt xs j ^^^ 2 ^ k))
theorem flip_len (xs : List UInt8) (j k : Nat) : (flip xs j k).length = xs.length := by simp [flip]
theorem flip_lt {xs : List UInt8} {j k : Nat} (hk : k < 8) : bt xs j ^^^ 2 ^ k < 256 := Nat.xor_lt_two_pow (n := 8) (bt_lt _ _) (Nat.pow_lt_pow_right (by omega) hk)
theorem bt_set {xs : List UInt8} {j i x : Nat} (hj : j < xs.length) (hx : x < 256) : bt (xs.set j (UInt8.ofNat x)) i = if i = j then x else bt xs i := by
  unfold bt
  by_cases h : i = j
  · subst h
    simp [List.getD, hj]
    omega
  · simp [List.getD, h, List.getElem?_set_ne (Ne.symm h)]
theorem flip_ne {xs : List UInt8} {j k : Nat} (hj : j < xs.length) (hk : k < 8) : ¬ xs = flip xs j k := fun h => by
  have h1 : bt xs j = bt (flip xs j k) j := by rw [← h]
  unfold flip at h1
  rw [bt_set hj (flip_lt hk), if_pos rfl] at h1
  exact UInt8.xor_ne hk (bt_lt _ _) h1.symm
theorem Ky.flip {w : World} {g j k : Nat} {xs : List UInt8} (h : Ky w g xs) (hj : j < 32) (hk : k < 8) : Ky (w.setCell ⟨g, j, none⟩ (.int .u8 ((bt xs j ^^^ 2 ^ k : Nat) : Int))) g (flip xs j k) := by
  refine ⟨?_, by rw [flip_len]; exact h.2⟩
  rw [setCell_eq_setRow w g j _ _ (0, 0) _ h.1, setRow_heap w g _ _ _ _ h.1]
  congr 2
  have hl := h.2
  apply Array.ext'
  rw [Array.toList_setIfInBounds]
  apply List.ext_getElem?
  intro i
  simp only [List.getElem?_set, cellsOf_len]
  by_cases hi : i < 32
  · rw [cellsOf_get (xs := Go.Proofs.YtbnjmmefnjoofaaDoor.flip xs j k) (by rw [flip_len]; omega)]
    unfold Go.Proofs.YtbnjmmefnjoofaaDoor.flip
    rw [bt_set (by omega) (flip_lt hk)]
    by_cases e : j = i
    · subst e; simp [show j < xs.length by omega]
    · rw [if_neg e, if_neg (Ne.symm e)]
      have := cellsOf_get (xs := xs) (j := i) (by omega)
      simpa using this
  · have h1 : (cellsOf xs)[i]? = none := List.getElem?_eq_none (by rw [cellsOf_len]; omega)
    have h2 : (cellsOf (Go.Proofs.YtbnjmmefnjoofaaDoor.flip xs j k))[i]? = none := List.getElem?_eq_none (by rw [cellsOf_len, flip_len]; omega)
    rw [if_neg (by omega)]
    simp only [h2]
    simpa using h1
theorem flip_int {xs : List UInt8} {j k : Nat} (hk : k < 8) : bits .xor .u8 (bt xs j : Int) (IntKind.u8.wrap (2 ^ k)) = ((bt xs j ^^^ 2 ^ k : Nat) : Int) := by
  have h1 : 2 ^ k < 256 := Nat.pow_lt_pow_right (a := 2) (by omega) hk
  have h2 : IntKind.u8.wrap (2 ^ k) = ((2 ^ k : Nat) : Int) := by
    rw [IntKind.wrap_u8, show ((2 : Int) ^ k) = ((2 ^ k : Nat) : Int) by simp]
    generalize 2 ^ k = x at *
    omega
  rw [h2, u8_xor_nat _ _ (bt_lt _ _) h1]
end Go.Proofs.YtbnjmmefnjoofaaDoor
end

section
/-
  Parts of structs are compared: keys and numbers.
-/
namespace Go.Proofs.YtbnjmmefnjoofaaDoor
open Go.ChangeShapes Go.WideShapes Go.ChangeAt Go.RowKit Go.Deep
set_option maxRecDepth 100000

theorem part_keyF {w : World} {K : Array Value} {off : Nat} : (part 23 K off).run Tryd.prog w = .ok (.agg (K.extract off (off + 32))) w := by
  obtain ⟨i, hi, hz0, hz1, hz2⟩ := info_parts (show (Tryd.prog.info? 23).map (fun i => (i.zero, i.size, i.bytes)) = some (some (.agg zeros32), 32, 32) by kernel_rfl)
  simp [part, isAgg, run_underlying Tryd.underlying23, sizeOf, typeInfo, hi, hz1]
theorem key_equalF {d : Nat} {xs ys : List UInt8} (hx : xs.length = 32) (hy : ys.length = 32) (w : World) :
    (Op.equalIn (d + 2) 23 (.agg (cellsOf xs).toArray) (.agg (cellsOf ys).toArray)).run Tryd.prog w = .ok (decide (xs = ys)) w := by
  rw [cellsOf_cell, cellsOf_cell, run_equalIn_bytes w d 23 5 32 rfl rfl (fun _ => rfl) xs ys hx hy]
  congr 1
  rw [Bool.eq_iff_iff]; simp
theorem part_intF {w : World} {K : Array Value} {off : Nat} {v : Value} (h : K[off]? = some v) : (part 3 K off).run Tryd.prog w = .ok v w := by
  simp [part, isAgg, run_underlying Tryd.underlying3, h]
theorem int_equalF {d : Nat} {a b : Int} (w : World) : (Op.equalIn (d + 1) 3 (.int .i64 a) (.int .i64 b)).run Tryd.prog w = .ok (a == b) w := by
  simp [Op.equalIn, run_underlying Tryd.underlying3]
end Go.Proofs.YtbnjmmefnjoofaaDoor
end
