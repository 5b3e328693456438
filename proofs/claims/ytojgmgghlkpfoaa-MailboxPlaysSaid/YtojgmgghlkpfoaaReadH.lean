import Derived.Test.YtojgmgghlkpfoaaPkF
/-
  Reading a head: head, where there is enough.
-/
namespace Go.Proofs.Ytojgmgghlkpfoaa
open Go.ChangeShapes Go.WideShapes Go.ChangeAt Go.RowKit Go.Deep
set_option maxRecDepth 100000

theorem grown_new {w a b : World} {g g2 : Nat} (h : w.grownBy a (some g)) (k : a.grownBy b (some g2)) (hg : w.heap.size ≤ g2) : w.grownBy b (some g) :=
  ⟨k.os.trans h.os, k.tape.trans h.tape, k.output.trans h.output, Nat.le_trans h.size k.size, fun i hi hne => (k.block i (Nat.lt_of_lt_of_le hi h.size) (fun q => by have := Option.some.inj q; omega)).trans (h.block i hi hne)⟩
theorem head_alloc (w : World) : (zeroValue 25).run Try.prog w = .ok (.agg (hdC (List.replicate 32 0) 0 0).toArray) w := by kernel_rfl
theorem head_built {k : List UInt8} {p n : Int} (hk : k.length = 32) : Try.prog.built 25 [(0, .agg (cellsOf k).toArray), (1, .int .i64 p), (2, .int .i64 n)] = some (hdC k p n).toArray := by
  have h : ∃ pl : Nat → Option (Nat × Nat), (pl 0 = some (0, 32) ∧ pl 1 = some (32, 1) ∧ pl 2 = some (33, 1)) ∧ ∀ ps, Try.prog.built 25 ps = Instr.fill pl (hdC (List.replicate 32 0) 0 0).toArray ps := ⟨(#[(0, 32), (32, 1), (33, 1)][·]?), ⟨rfl, rfl, rfl⟩, fun ps => by kernel_rfl⟩
  obtain ⟨pl, ⟨h0, h1, h2⟩, hp⟩ := h
  have hz : hdC (List.replicate 32 0) 0 0 = cellsOf (List.replicate 32 0) ++ ([.int .i64 0] ++ [.int .i64 0]) := rfl
  have sk : (Value.agg (cellsOf k).toArray).cells.size = 32 := by rw [cells_agg, List.size_toArray, cellsOf_len, hk]
  have ci : ∀ z : Int, (Value.int .i64 z).cells = #[.int .i64 z] := fun z => rfl
  rw [hp, hz, fill_step h0 sk (by simp [cellsOf_len]), cells_agg, splice_zero (by simp [cellsOf_len, hk]), fill_step h1 rfl (by simp [cellsOf_len, hk]), ci]
  simp only [List.toList_toArray]
  rw [splice_mid (p := cellsOf k) (by simp [cellsOf_len, hk]) (by simp), ← List.append_assoc, fill_step h2 rfl (by simp [cellsOf_len, hk]), ci]
  have e := splice_mid (p := cellsOf k ++ [Value.int .i64 p]) (y := [Value.int .i64 0]) (q := []) (z := [Value.int .i64 n]) (off := 33) (by simp [cellsOf_len, hk]) rfl
  simp only [List.append_nil] at e
  simp only [List.toList_toArray]
  rw [e]
  simp [Instr.fill, hdC]
theorem numN_lt {xs : List UInt8} {k : Nat} (hk : k ≤ 4) : numN xs k < 4294967296 := by
  have h := ofLowL_lt (xs.take k).reverse
  have hl : (xs.take k).reverse.length ≤ 4 := by rw [List.length_reverse, List.length_take]; omega
  have h2 : 256 ^ (xs.take k).reverse.length ≤ 256 ^ 4 := Nat.pow_le_pow_right (by omega) hl
  unfold numN
  omega
set_option maxHeartbeats 4000000 in
theorem head_ok {w : World} {g n c : Nat} {A : Option Addr} {xs : List UInt8} (h : Cb w g 73 [.slice A n c]) (hb : Bs w A n c xs) (hk : 40 ≤ n) :
    Calls Try.prog 36 #[.pointer (some ⟨g, 0, none⟩)] w fun e w' => e = .returned (.agg (hdC (xs.take 32) (numN (xs.drop 32) 4 : Int) (numN (xs.drop 36) 4 : Int)).toArray) ∧ ∃ A', Cb w' g 73 [.slice A' (n - 40) (c - 40)] ∧ Bs w' A' (n - 40) (c - 40) (xs.drop 40) ∧ w.grownBy w' (some g) ∧ (∀ s, Bs s A n c xs → Bs s A' (n - 40) (c - 40) (xs.drop 40)) := by
  have TK : Hid (∀ (W : World), Ext w W → Calls Try.prog 45 #[.pointer (some ⟨g, 0, none⟩), .int .i64 40] W fun e w' => e = .returned (.slice A 40 c) ∧ ∃ A', Cb w' g 73 [.slice A' (n - 40) (c - 40)] ∧ Bs w' A 40 c (xs.take 40) ∧ Bs w' A' (n - 40) (c - 40) (xs.drop 40) ∧ W.grownBy w' (some g) ∧ (∀ s, Bs s A n c xs → Bs s A' (n - 40) (c - 40) (xs.drop 40))) := fun W e => take_ok (k := 40) (h.ext e) (hb.ext e) hk (by omega)
  have glt := h.lt
  have BG : Hid (∀ s, w.grownBy s (some g) → Bs s A n c xs) := fun s q => hb.grown h (fun k i q => by cases q) q
  have lx := hb.1
  have E1 : Hid (((xs.take 40).take 32) = xs.take 32) := by unfold Hid; rw [List.take_take]; rfl
  have E2 : Hid (numN ((xs.take 40).drop 32) 4 = numN (xs.drop 32) 4) := by unfold Hid numN; rw [List.drop_take, List.take_take]; rfl
  have E3 : Hid (numN (((xs.take 40).drop 32).drop 4) 4 = numN (xs.drop 36) 4) := by unfold Hid numN; rw [List.drop_drop, List.drop_take, List.take_take]; rfl
  have hal := head_alloc
  have L_k : (xs.take 32).length = 32 := by rw [List.length_take]; omega
  have BLT := Lib.hid (head_built (p := (numN (xs.drop 32) 4 : Int)) (n := (numN (xs.drop 36) 4 : Int)) L_k)
  have L_hr := hdC_len L_k (numN (xs.drop 32) 4 : Int) (numN (xs.drop 36) 4 : Int)
  have L_hz : (hdC (List.replicate 32 0) 0 0).length = 34 := hdC_len rfl 0 0
  have O_hr : Hid ((hdC (xs.take 32) (numN (xs.drop 32) 4 : Int) (numN (xs.drop 36) 4 : Int)).toArray.all (·.oneCell') = true) := one_cells fun v hv => by
    rcases List.mem_append.1 hv with q | q
    · exact one_mem _ v q
    · simp at q; rcases q with rfl | rfl <;> rfl
  have KEY_ : Hid (∀ (W : World) (g2 : Nat), Cb W g2 73 [.slice A 40 c] → Bs W A 40 c (xs.take 40) → Calls Try.prog 44 #[.pointer (some ⟨g2, 0, none⟩)] W fun e w' => e = .returned (.agg (cellsOf (xs.take 32)).toArray) ∧ ∃ A', Cb w' g2 73 [.slice A' (40 - 32) (c - 32)] ∧ Bs w' A' (40 - 32) (c - 32) ((xs.take 40).drop 32) ∧ W.grownBy w' (some g2)) := fun W g2 q1 q2 => by
    have := key_ok q1 q2 (by omega)
    rw [E1.out] at this
    exact this.mono fun e w' q => ⟨q.1, q.2.choose, q.2.choose_spec.1, q.2.choose_spec.2.1, q.2.choose_spec.2.2.1⟩
  have NA : Hid (∀ (W : World) (g2 : Nat) (A2 : Option Addr) (c2 : Nat), Cb W g2 73 [.slice A2 8 c2] → Bs W A2 8 c2 ((xs.take 40).drop 32) → Calls Try.prog 43 #[.pointer (some ⟨g2, 0, none⟩), .int .i64 4] W fun e w' => e = .returned (.int .i64 (numN (xs.drop 32) 4 : Int)) ∧ ∃ A', Cb w' g2 73 [.slice A' 4 (c2 - 4)] ∧ Bs w' A' 4 (c2 - 4) (((xs.take 40).drop 32).drop 4) ∧ W.grownBy w' (some g2)) := fun W g2 A2 c2 q1 q2 => by
    have := number_ok (k := 4) q1 q2 (by omega) (by omega) (numN_lt (by omega))
    rw [E2.out] at this
    exact this.mono fun e w' q => ⟨q.1, q.2.choose, q.2.choose_spec.1, q.2.choose_spec.2.1, q.2.choose_spec.2.2.1⟩
  have NB : Hid (∀ (W : World) (g2 : Nat) (A2 : Option Addr) (c2 : Nat), Cb W g2 73 [.slice A2 4 c2] → Bs W A2 4 c2 (((xs.take 40).drop 32).drop 4) → Calls Try.prog 43 #[.pointer (some ⟨g2, 0, none⟩), .int .i64 4] W fun e w' => e = .returned (.int .i64 (numN (xs.drop 36) 4 : Int)) ∧ W.grownBy w' (some g2)) := fun W g2 A2 c2 q1 q2 => by
    have := number_ok (k := 4) q1 q2 (by omega) (by omega) (numN_lt (by omega))
    rw [E3.out] at this
    exact this.mono fun e w' q => ⟨q.1, q.2.choose_spec.2.2.1⟩
  clear E1 E2 E3 h hb lx
  generalize numN (xs.drop 32) 4 = va at *
  generalize numN (xs.drop 36) 4 = vb at *
  generalize hdC (xs.take 32) (va : Int) (vb : Int) = hr at *
  generalize hdC (List.replicate 32 0) 0 0 = hz at *
  generalize xs.take 32 = kk at *
  generalize (xs.take 40).drop 32 = t8 at *
  generalize t8.drop 4 = t4 at *
  generalize xs.take 40 = t40 at *
  generalize xs.drop 40 = tl at *
  have S_hr : hr.toArray.size = 34 := by rw [List.size_toArray, L_hr]
  have S_hz : hz.toArray.size = 34 := by rw [List.size_toArray, L_hz]
  obtain ⟨r, hr_⟩ : ∃ r, r = w.heap.size := ⟨_, rfl⟩
  have B0 : Hid (Cb (w.alloc (Obj.cells hz.toArray 25)) r 25 hz ∧ Ext w (w.alloc (Obj.cells hz.toArray 25))) := by rw [hr_]; exact ⟨Cb.new _ _ _, (Ext.refl w).alloc _⟩
  go_enter Try.func36, Try.ntmps36
  go_upto_region 1 with fail
  refine wp_gen (fun W => Cb W r 25 hz ∧ Ext w W) B0.out ?_
  rw [← hr_]
  have gr_ : g < r := by rw [hr_]; exact glt
  have wr : w.heap.size ≤ r := Nat.le_of_eq hr_.symm
  clear B0
  replace hr_ := Lib.hid hr_
  rintro w0 ⟨b0, x0⟩
  have TK0 := Lib.hid (TK.out w0 x0)
  replace b0 := Lib.hid b0
  replace x0 := Lib.hid x0
  clear TK
  go_wp2_with fail
  refine TK0.out.mono ?_
  rintro e w1 ⟨rfl, A', k1, t1, d1, g1, cut_⟩
  have b1 : Hid (Cb w1 r 25 hz) := (g1.block _ (heap_lt b0.out) (fun q => by have := Option.some.inj q; omega)).trans b0.out
  have y1 : Hid (w.grownBy w1 (some g)) := grown_trans' ⟨x0.out.os, x0.out.tape, x0.out.output, x0.out.size, fun i hi _ => x0.out.block i hi⟩ g1
  replace k1 := Lib.hid k1
  replace t1 := Lib.hid t1
  replace cut_ := Lib.hid cut_
  clear g1 d1 b0 x0 TK0
  obtain ⟨g2, hg2⟩ : ∃ q, q = w1.heap.size := ⟨_, rfl⟩
  have r2 : r < g2 := by rw [hg2]; exact heap_lt b1.out
  have Z2 : Hid (Cb (w1.alloc (Obj.cells #[.slice A 40 c] 73)) g2 73 [.slice A 40 c] ∧ Ext w1 (w1.alloc (Obj.cells #[.slice A 40 c] 73))) := by rw [hg2]; exact ⟨Cb.new _ _ [.slice A 40 c], (Ext.refl _).alloc _⟩
  replace hg2 := Lib.hid hg2
  go_upto_region 2 with fail
  rw [← hg2.out]
  refine wp_gen (fun W => Cb W g2 73 [.slice A 40 c] ∧ Ext w1 W) Z2.out ?_
  clear Z2 hg2
  rintro w2 ⟨k2, x2⟩
  have KC := Lib.hid (KEY_.out _ _ k2 (t1.out.ext x2))
  have Q2 : Hid (∀ s, w2.grownBy s (some g2) → Cb s r 25 hz ∧ Cb s g 73 [.slice A' (n - 40) (c - 40)] ∧ w.grownBy s (some g)) := fun s e =>
    ⟨(e.block _ (heap_lt (b1.out.ext x2)) (fun q => by have := Option.some.inj q; omega)).trans (b1.out.ext x2), (e.block _ (heap_lt (k1.out.ext x2)) (fun q => by have := Option.some.inj q; omega)).trans (k1.out.ext x2),
     grown_new (grown_trans' y1.out ⟨x2.os, x2.tape, x2.output, x2.size, fun i hi _ => x2.block i hi⟩) e (by omega)⟩
  clear k2 x2 KEY_ t1 b1 k1 y1
  go_wp2_with fail
  refine KC.out.mono ?_
  rintro e w3 ⟨rfl, A3, k3, b3, g3⟩
  have NC := Lib.hid (NA.out _ _ _ _ k3 b3)
  replace g3 := Lib.hid g3
  clear KC NA k3 b3
  go_wp2_with fail
  refine NC.out.mono ?_
  rintro e w4 ⟨rfl, A4, k4, b4, g4⟩
  have ND := Lib.hid (NB.out _ _ _ _ k4 b4)
  replace g4 := Lib.hid (grown_trans' g3.out g4)
  clear NC NB k4 b4 g3
  go_wp2_with fail
  refine ND.out.mono ?_
  rintro e w5 ⟨rfl, g5⟩
  obtain ⟨b5, k5, y5⟩ := Q2.out _ (grown_trans' g4.out g5)
  clear ND g4 g5 Q2
  have F : Hid (Cb (w5.setRow r hr.toArray) g 73 [.slice A' (n - 40) (c - 40)] ∧ w.grownBy (w5.setRow r hr.toArray) (some g)) := ⟨k5.row (by omega), ⟨y5.os, y5.tape, y5.output, by simpa using y5.size, fun i hi hne => (setRow_other _ _ _ _ (by omega)).trans (y5.block i hi hne)⟩⟩
  have FB : Hid (Bs (w5.setRow r hr.toArray) A' (n - 40) (c - 40) tl) := cut_.out _ (BG.out _ F.out.2)
  replace b5 := Lib.hid b5
  clear k5 y5 BG
  go_wp2_with (first
    | (refine wpList_build_as rfl _ _ rfl hr.toArray (by simp only [List.map_toArray, List.map_cons, List.map_nil]; exact BLT.out) ?_; simp only [Act.put, List.setIfInBounds_toArray, List.set_cons_zero, List.set_cons_succ])
    | (refine wpList_store_row rfl 25 _ _ rfl r hr.toArray rfl rfl 25 hz.toArray b5.out (by rw [S_hr]; rfl) (by rw [S_hr, S_hz]) O_hr.out ?_; simp only [Act.put]))
  (try simp only [Exit.inBlock, Exit.then])
  refine bodyPost_ret (results_cell_row rfl _ _ r 25 hr.toArray (0, 0) _ rfl (setRow_heap _ _ _ _ _ _ b5.out) rfl rfl (by rw [S_hr]; rfl)) rfl ?_
  exact ⟨rfl, A', F.out.1, FB.out, F.out.2, cut_.out⟩
end Go.Proofs.Ytojgmgghlkpfoaa
