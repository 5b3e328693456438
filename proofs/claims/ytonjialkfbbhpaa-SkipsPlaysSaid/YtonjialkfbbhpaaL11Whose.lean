/-
  The law SkipsWhose.
-/
import Derived.Test.YtonjialkfbbhpaaAwake11
import Derived.Test.YtonjialkfbbhpaaLeaf
namespace Go.Proofs.Ytonjialkfbbhpaa
open Go.ChangeShapes Go.WideShapes Go.ChangeAt Go.RowKit Go.Deep Go.Maps
set_option maxRecDepth 100000

theorem key_box {w : World} {T : TypeId} {old xs : List UInt8} : Cb ((w.alloc (.cells (cellsOf old).toArray T)).setRow w.heap.size (cellsOf xs).toArray) w.heap.size T (cellsOf xs) := (Cb.new w T (cellsOf old)).set
theorem Two.cb {g b r : Nat} {w w' : World} {T : TypeId} {L : List Value} (t : Two g b w w') (h : Cb w r T L) (h1 : r ≠ g) (h2 : r ≠ b) : Cb w' r T L := t.block h h1 h2
def zk32 : List UInt8 := List.replicate 32 0
set_option maxHeartbeats 8000000 in
theorem whose_calls {w : World} {xa xb xk : List UInt8} (la : xa.length = 32) (lb : xb.length = 32) (lk : xk.length = 32) {n : Int} (hn : -9223372036854775808 ≤ n ∧ n ≤ 9223372036854775807) :
    Calls Try.prog 6 #[.agg (cellsOf xa ++ (cellsOf xb ++ cellsOf xk)).toArray, .int .i64 n] w fun e w' => e = .returned (.bool true) ∧ Ext w w' := by
  have AW := Lib.hid (fun (W : World) => awake11_calls (w := W))
  have NW := Lib.hid (fun (W : World) => snew_calls (w := W))
  have hal3 : ∀ w, (zeroValue 31).run Try.prog w = .ok (.agg (cellsOf zk32).toArray) w := fun w => by kernel_rfl
  have BZ : Try.prog.built 31 [] = some (cellsOf zk32).toArray := by kernel_rfl
  replace BZ := Lib.hid BZ
  have ZZ : Hid (zk32 = List.replicate 32 0) := rfl
  have lz : zk32.length = 32 := rfl
  generalize zk32 = z at *
  have C_a : (cellsOf xa).length = 32 := by rw [cellsOf_len, la]
  have C_b : (cellsOf xb).length = 32 := by rw [cellsOf_len, lb]
  have C_k : (cellsOf xk).length = 32 := by rw [cellsOf_len, lk]
  have S_a : (cellsOf xa).toArray.size = 32 := by simp [C_a]
  have S_b : (cellsOf xb).toArray.size = 32 := by simp [C_b]
  have S_k : (cellsOf xk).toArray.size = 32 := by simp [C_k]
  have S_z : (cellsOf z).toArray.size = 32 := by simp [cellsOf_len, lz]
  have O_a := one_cells (one_mem xa)
  have O_b := one_cells (one_mem xb)
  have O_k := one_cells (one_mem xk)
  have O_z := one_cells (one_mem z)
  have M : Hid (∀ s r, Cb s r 43 (cellsOf xa ++ (cellsOf xb ++ cellsOf xk)) → (∀ j v, (cellsOf xa)[j]? = some v → s.cell? ⟨r, 0 + j, none⟩ = some v) ∧ (∀ j v, (cellsOf xb)[j]? = some v → s.cell? ⟨r, 32 + j, none⟩ = some v) ∧ (∀ j v, (cellsOf xk)[j]? = some v → s.cell? ⟨r, 64 + j, none⟩ = some v)) := fun s r h =>
    ⟨h.mid (p := []) rfl rfl, h.mid (p := cellsOf xa) rfl C_a, h.mid (p := cellsOf xa ++ cellsOf xb) (q := []) (by simp) (by rw [List.length_append, C_a, C_b])⟩
  have B0 : Hid (Cb (w.alloc (.cells (cellsOf xa ++ (cellsOf xb ++ cellsOf xk)).toArray 43)) w.heap.size 43 (cellsOf xa ++ (cellsOf xb ++ cellsOf xk)) ∧ Ext w (w.alloc (.cells (cellsOf xa ++ (cellsOf xb ++ cellsOf xk)).toArray 43))) := ⟨Cb.new _ _ _, (Ext.refl w).alloc _⟩
  generalize hC3 : cellsOf xa ++ (cellsOf xb ++ cellsOf xk) = C3 at *
  clear hC3
  go_enter Try.func6, Try.ntmps6
  go_upto_region 1 with fail
  refine wp_gen (fun W => Cb W w.heap.size 43 C3 ∧ Ext w W) B0.out ?_
  obtain ⟨r2, hr2⟩ : ∃ r, r = w.heap.size := ⟨_, rfl⟩
  rw [← hr2]
  have wr2 : w.heap.size ≤ r2 := Nat.le_of_eq hr2.symm
  replace hr2 := Lib.hid hr2
  clear B0
  rintro w0 ⟨k2, x0⟩
  replace k2 := Lib.hid k2
  replace x0 := Lib.hid x0
  go_wp2_with fail
  refine (AW.out _).mono ?_
  rintro e w1 ⟨rfl, x1⟩
  have k2' := k2.out.ext x1
  have X1 := x0.out.trans x1
  have lr2 := k2'.lt
  have K1 : Hid (Cb ((w1.alloc (.cells (cellsOf z).toArray 31)).setRow w1.heap.size (cellsOf xa).toArray) r2 43 C3 ∧ Cb ((w1.alloc (.cells (cellsOf z).toArray 31)).setRow w1.heap.size (cellsOf xa).toArray) w1.heap.size 31 (cellsOf xa) ∧ Ext w ((w1.alloc (.cells (cellsOf z).toArray 31)).setRow w1.heap.size (cellsOf xa).toArray)) := ⟨k2'.ext (Ext.newRow _ _ _), key_box, X1.trans (Ext.newRow _ _ _)⟩
  have m0 := Lib.hid (M.out _ _ k2').1
  clear AW k2 x0 x1 k2' X1
  go_upto_region 3 with (first
    | ((with_reducible refine wpList_load_mid (o := ⟨some 17, _, _, _, _, _⟩) (ty := 31) (g := r2) (off := 0) (ys := cellsOf xa) ?_ rfl ?_ ?_ Try.underlying31 ?_ ?_ ?_); (· rfl); (· rfl); (· exact m0.out); (· rfl); (· rw [C_a]; rfl); simp only [Act.put, List.setIfInBounds_toArray, List.set_cons_zero, List.set_cons_succ])
    | (refine wpList_store_row rfl 31 _ _ rfl w1.heap.size (cellsOf xa).toArray rfl rfl 31 (cellsOf z).toArray (heap_alloc_new _ _) (by rw [S_a]; rfl) (by rw [S_a, S_z]) O_a ?_; simp only [Act.put]))
  refine wp_gen (fun W => Cb W r2 43 C3 ∧ Cb W w1.heap.size 31 (cellsOf xa) ∧ Ext w W) K1.out ?_
  generalize w1.heap.size = r6 at *
  clear K1 m0 w1
  rintro w2 ⟨k2, k6, x2⟩
  have m1 := Lib.hid (M.out _ _ k2).2.1
  have lr6 := k6.lt
  have K1 : Hid (Cb ((w2.alloc (.cells (cellsOf z).toArray 31)).setRow w2.heap.size (cellsOf xb).toArray) r2 43 C3 ∧ Cb ((w2.alloc (.cells (cellsOf z).toArray 31)).setRow w2.heap.size (cellsOf xb).toArray) r6 31 (cellsOf xa) ∧ Cb ((w2.alloc (.cells (cellsOf z).toArray 31)).setRow w2.heap.size (cellsOf xb).toArray) w2.heap.size 31 (cellsOf xb) ∧ Ext w ((w2.alloc (.cells (cellsOf z).toArray 31)).setRow w2.heap.size (cellsOf xb).toArray)) := ⟨k2.ext (Ext.newRow _ _ _), k6.ext (Ext.newRow _ _ _), key_box, x2.trans (Ext.newRow _ _ _)⟩
  clear k2 k6 x2
  go_upto_region 4 with (first
    | ((with_reducible refine wpList_load_mid (o := ⟨some 19, _, _, _, _, _⟩) (ty := 31) (g := r2) (off := 32) (ys := cellsOf xb) ?_ rfl ?_ ?_ Try.underlying31 ?_ ?_ ?_); (· rfl); (· rfl); (· exact m1.out); (· rfl); (· rw [C_b]; rfl); simp only [Act.put, List.setIfInBounds_toArray, List.set_cons_zero, List.set_cons_succ])
    | (refine wpList_store_row rfl 31 _ _ rfl w2.heap.size (cellsOf xb).toArray rfl rfl 31 (cellsOf z).toArray (heap_alloc_new _ _) (by rw [S_b]; rfl) (by rw [S_b, S_z]) O_b ?_; simp only [Act.put]))
  refine wp_gen (fun W => Cb W r2 43 C3 ∧ Cb W r6 31 (cellsOf xa) ∧ Cb W w2.heap.size 31 (cellsOf xb) ∧ Ext w W) K1.out ?_
  generalize w2.heap.size = r7 at *
  clear K1 m1 w2
  rintro w3 ⟨k2, k6, k7, x3⟩
  have m2 := Lib.hid (M.out _ _ k2).2.2
  have lr7 := k7.lt
  have K1 : Hid (Cb ((w3.alloc (.cells (cellsOf z).toArray 31)).setRow w3.heap.size (cellsOf xk).toArray) r6 31 (cellsOf xa) ∧ Cb ((w3.alloc (.cells (cellsOf z).toArray 31)).setRow w3.heap.size (cellsOf xk).toArray) r7 31 (cellsOf xb) ∧ Cb ((w3.alloc (.cells (cellsOf z).toArray 31)).setRow w3.heap.size (cellsOf xk).toArray) w3.heap.size 31 (cellsOf xk) ∧ Ext w ((w3.alloc (.cells (cellsOf z).toArray 31)).setRow w3.heap.size (cellsOf xk).toArray)) := ⟨k6.ext (Ext.newRow _ _ _), k7.ext (Ext.newRow _ _ _), key_box, x3.trans (Ext.newRow _ _ _)⟩
  clear k2 k6 k7 x3 M
  go_upto_region 5 with (first
    | ((with_reducible refine wpList_load_mid (o := ⟨some 21, _, _, _, _, _⟩) (ty := 31) (g := r2) (off := 64) (ys := cellsOf xk) ?_ rfl ?_ ?_ Try.underlying31 ?_ ?_ ?_); (· rfl); (· rfl); (· exact m2.out); (· rfl); (· rw [C_k]; rfl); simp only [Act.put, List.setIfInBounds_toArray, List.set_cons_zero, List.set_cons_succ])
    | (refine wpList_store_row rfl 31 _ _ rfl w3.heap.size (cellsOf xk).toArray rfl rfl 31 (cellsOf z).toArray (heap_alloc_new _ _) (by rw [S_k]; rfl) (by rw [S_k, S_z]) O_k ?_; simp only [Act.put]))
  refine wp_gen (fun W => Cb W r6 31 (cellsOf xa) ∧ Cb W r7 31 (cellsOf xb) ∧ Cb W w3.heap.size 31 (cellsOf xk) ∧ Ext w W) K1.out ?_
  generalize w3.heap.size = r8 at *
  clear K1 m2 w3
  rintro w4 ⟨k6, k7, k8, x4⟩
  have lr8 := k8.lt
  replace k6 := Lib.hid k6
  replace k7 := Lib.hid k7
  replace k8 := Lib.hid k8
  replace x4 := Lib.hid x4
  go_wp2_with fail
  refine (NW.out _).mono ?_
  rintro e w5 ⟨g, b, rfl, gg, gb, s5, x5⟩
  have Q5 : Hid (∀ s, Ext w5 s → Cb s r6 31 (cellsOf xa) ∧ Cb s r7 31 (cellsOf xb) ∧ Cb s r8 31 (cellsOf xk) ∧ Ext w s) := fun s e => ⟨k6.out.ext (x5.trans e), k7.out.ext (x5.trans e), k8.out.ext (x5.trans e), x4.out.trans (x5.trans e)⟩
  have wg : w.heap.size ≤ g := Nat.le_trans x4.out.size gg
  have wb : w.heap.size ≤ b := Nat.le_trans x4.out.size gb
  clear NW k6 k7 k8 x4 x5
  rcases Decidable.em (n < 0) with hneg | hneg
  · have u1 : decide (n < 0) = true := decide_eq_true hneg
    clear s5
    go_wp2_with fail
    go_ret
    exact ⟨rfl, (Q5.out _ (Ext.refl _)).2.2.2⟩
  have u1 : decide (n < 0) = false := decide_eq_false hneg
  have n0 : 0 ≤ n := by omega
  have PT := sput_calls s5 (pk := xa) (k := xk) (n := n) la lk hn (by simp) (by omega)
  rw [putE_nil xa n0, putR_nil xa n0 xk 0] at PT
  replace PT := Lib.hid PT
  have k6 := Lib.hid (Q5.out _ (Ext.refl _)).1
  have k8 := Lib.hid (Q5.out _ (Ext.refl _)).2.2.1
  clear s5
  go_wp2_with (first
    | ((with_reducible refine wpList_load_rowW (o := ⟨some 35, _, _, _, _, _⟩) ?_ 31 _ rfl r6 ?_ 31 (cellsOf xa).toArray (0, 0) _ ?_ Try.underlying31 ?_ ?_ ?_); (· rfl); (· rfl); (· exact k6.out); (· rfl); (· rw [S_a]; rfl); simp only [Act.put, List.setIfInBounds_toArray, List.set_cons_zero, List.set_cons_succ])
    | ((with_reducible refine wpList_load_rowW (o := ⟨some 37, _, _, _, _, _⟩) ?_ 31 _ rfl r8 ?_ 31 (cellsOf xk).toArray (0, 0) _ ?_ Try.underlying31 ?_ ?_ ?_); (· rfl); (· rfl); (· exact k8.out); (· rfl); (· rw [S_k]; rfl); simp only [Act.put, List.setIfInBounds_toArray, List.set_cons_zero, List.set_cons_succ]))
  refine PT.out.mono ?_
  rintro e w6 ⟨rfl, ⟨p, p1, p2, _, _, s6⟩, t6⟩
  obtain ⟨k6', k7', k8', x5⟩ := Q5.out _ (Ext.refl _)
  have q6 := t6.cb k6' (by omega) (by omega)
  have q7 := t6.cb k7' (by omega) (by omega)
  have q8 := t6.cb k8' (by omega) (by omega)
  have X6 := t6.ext x5 wg wb
  clear PT Q5 k6 k8 k6' k7' k8' x5 t6
  obtain ⟨hb, hhb⟩ : ∃ q, q = hasK [⟨xa, n, xk, 0⟩] xb n := ⟨_, rfl⟩
  have HB : Hid (hb = decide (xa = xb)) := by
    rw [hhb]
    unfold Hid hasK
    simp only [List.any_cons, List.any_nil, Kp.at, Bool.or_false]
    by_cases e : xa = xb <;> simp [e]
  obtain ⟨kb, hkb⟩ : ∃ q, q = (theK [⟨xa, n, xk, 0⟩] xb n).k := ⟨_, rfl⟩
  have lkb : kb.length = 32 := by rw [hkb]; exact theK_k s6.ok
  have KB : Hid ((hb = true → kb = xk) ∧ (hb = false → kb = z)) := by
    refine ⟨fun q => ?_, fun q => ?_⟩
    · rw [HB.out] at q
      obtain rfl := of_decide_eq_true q
      rw [hkb, theK_one]
    · rw [hkb, theK_none (by rw [← hhb]; exact q), ZZ.out]
  obtain ⟨L1, hL1⟩ : ∃ q, q = takeL [⟨xa, n, xk, 0⟩] xb n := ⟨_, rfl⟩
  have TL : Hid ((hb = true → L1 = []) ∧ (hb = false → L1 = [⟨xa, n, xk, 0⟩])) := by
    refine ⟨fun q => ?_, fun q => ?_⟩
    · rw [HB.out] at q
      obtain rfl := of_decide_eq_true q
      rw [hL1, takeL_one]
    · rw [hL1, takeL_none (by rw [← hhb]; exact q)]
  have TK := stake_calls s6 (pk := xb) (n := n) lb hn
  rw [← hhb, ← hkb, ← hL1] at TK
  replace TK := Lib.hid TK
  have S_kb : (cellsOf kb).toArray.size = 32 := by simp [cellsOf_len, lkb]
  have O_kb := one_cells (one_mem kb)
  replace q6 := Lib.hid q6
  replace q7 := Lib.hid q7
  replace q8 := Lib.hid q8
  replace X6 := Lib.hid X6
  clear s6 hhb hkb hL1
  go_wp2_with ((with_reducible refine wpList_load_rowW (o := ⟨some 41, _, _, _, _, _⟩) ?_ 31 _ rfl r7 ?_ 31 (cellsOf xb).toArray (0, 0) _ ?_ Try.underlying31 ?_ ?_ ?_); (· rfl); (· rfl); (· exact q7.out); (· rfl); (· rw [S_b]; rfl); simp only [Act.put, List.setIfInBounds_toArray, List.set_cons_zero, List.set_cons_succ])
  refine TK.out.mono ?_
  rintro e w7 ⟨rfl, s7, t7⟩
  have K7 : Hid (Cb ((w7.alloc (.cells (cellsOf z).toArray 31)).setRow w7.heap.size (cellsOf kb).toArray) r6 31 (cellsOf xa) ∧ Cb ((w7.alloc (.cells (cellsOf z).toArray 31)).setRow w7.heap.size (cellsOf kb).toArray) r7 31 (cellsOf xb) ∧ Cb ((w7.alloc (.cells (cellsOf z).toArray 31)).setRow w7.heap.size (cellsOf kb).toArray) r8 31 (cellsOf xk) ∧ Cb ((w7.alloc (.cells (cellsOf z).toArray 31)).setRow w7.heap.size (cellsOf kb).toArray) w7.heap.size 31 (cellsOf kb) ∧ SK ((w7.alloc (.cells (cellsOf z).toArray 31)).setRow w7.heap.size (cellsOf kb).toArray) g b L1 p ∧ Ext w ((w7.alloc (.cells (cellsOf z).toArray 31)).setRow w7.heap.size (cellsOf kb).toArray)) :=
    ⟨(t7.cb q6.out (by omega) (by omega)).ext (Ext.newRow _ _ _), (t7.cb q7.out (by omega) (by omega)).ext (Ext.newRow _ _ _), (t7.cb q8.out (by omega) (by omega)).ext (Ext.newRow _ _ _), key_box, s7.ext (Ext.newRow _ _ _), (t7.ext X6.out wg wb).trans (Ext.newRow _ _ _)⟩
  have g7 := s7.cb.lt
  have b7 := s7.mp.lt
  clear TK q6 q7 q8 X6 t7 s7
  go_upto_region 10 with (refine wpList_store_row rfl 31 _ _ rfl w7.heap.size (cellsOf kb).toArray rfl rfl 31 (cellsOf z).toArray (heap_alloc_new _ _) (by rw [S_kb]; rfl) (by rw [S_kb, S_z]) O_kb ?_; simp only [Act.put])
  refine wp_gen (fun W => Cb W r6 31 (cellsOf xa) ∧ Cb W r7 31 (cellsOf xb) ∧ Cb W r8 31 (cellsOf xk) ∧ Cb W w7.heap.size 31 (cellsOf kb) ∧ SK W g b L1 p ∧ Ext w W) K7.out ?_
  generalize w7.heap.size = r11 at *
  clear K7 w7
  rintro w8 ⟨k6, k7, k8, k11, s8, x8⟩
  obtain ⟨ha, hha⟩ : ∃ q, q = hasK L1 xa n := ⟨_, rfl⟩
  obtain ⟨ka, hka⟩ : ∃ q, q = (theK L1 xa n).k := ⟨_, rfl⟩
  have lka : ka.length = 32 := by rw [hka]; exact theK_k s8.ok
  have KA : Hid (ha = !hb ∧ (hb = true → ka = z) ∧ (hb = false → ka = xk)) := by
    cases hb with
    | false =>
      obtain rfl := TL.out.2 rfl
      refine ⟨by rw [hha, hasK_one]; rfl, (fun q => by cases q), fun _ => by rw [hka, theK_one]⟩
    | true =>
      obtain rfl := TL.out.1 rfl
      refine ⟨by rw [hha]; rfl, (fun _ => by rw [hka, ZZ.out]; rfl), fun q => by cases q⟩
  have TK := stake_calls s8 (pk := xa) (n := n) la hn
  rw [← hha, ← hka] at TK
  replace TK := Lib.hid TK
  have S_ka : (cellsOf ka).toArray.size = 32 := by simp [cellsOf_len, lka]
  have O_ka := one_cells (one_mem ka)
  have l11 := k11.lt
  replace k6 := Lib.hid k6
  replace k7 := Lib.hid k7
  replace k8 := Lib.hid k8
  replace k11 := Lib.hid k11
  replace x8 := Lib.hid x8
  clear s8 hha hka TL
  go_wp2_with ((with_reducible refine wpList_load_rowW (o := ⟨some 48, _, _, _, _, _⟩) ?_ 31 _ rfl r6 ?_ 31 (cellsOf xa).toArray (0, 0) _ ?_ Try.underlying31 ?_ ?_ ?_); (· rfl); (· rfl); (· exact k6.out); (· rfl); (· rw [S_a]; rfl); simp only [Act.put, List.setIfInBounds_toArray, List.set_cons_zero, List.set_cons_succ])
  refine TK.out.mono ?_
  rintro e w9 ⟨rfl, s9, t9⟩
  have K9 : Hid (Cb ((w9.alloc (.cells (cellsOf z).toArray 31)).setRow w9.heap.size (cellsOf ka).toArray) r6 31 (cellsOf xa) ∧ Cb ((w9.alloc (.cells (cellsOf z).toArray 31)).setRow w9.heap.size (cellsOf ka).toArray) r7 31 (cellsOf xb) ∧ Cb ((w9.alloc (.cells (cellsOf z).toArray 31)).setRow w9.heap.size (cellsOf ka).toArray) r8 31 (cellsOf xk) ∧ Cb ((w9.alloc (.cells (cellsOf z).toArray 31)).setRow w9.heap.size (cellsOf ka).toArray) r11 31 (cellsOf kb) ∧ Cb ((w9.alloc (.cells (cellsOf z).toArray 31)).setRow w9.heap.size (cellsOf ka).toArray) w9.heap.size 31 (cellsOf ka) ∧ Ext w ((w9.alloc (.cells (cellsOf z).toArray 31)).setRow w9.heap.size (cellsOf ka).toArray)) :=
    ⟨(t9.cb k6.out (by omega) (by omega)).ext (Ext.newRow _ _ _), (t9.cb k7.out (by omega) (by omega)).ext (Ext.newRow _ _ _), (t9.cb k8.out (by omega) (by omega)).ext (Ext.newRow _ _ _), (t9.cb k11.out (by omega) (by omega)).ext (Ext.newRow _ _ _), key_box, (t9.ext x8.out wg wb).trans (Ext.newRow _ _ _)⟩
  clear TK k6 k7 k8 k11 x8 t9 s9
  go_upto_region 11 with (refine wpList_store_row rfl 31 _ _ rfl w9.heap.size (cellsOf ka).toArray rfl rfl 31 (cellsOf z).toArray (heap_alloc_new _ _) (by rw [S_ka]; rfl) (by rw [S_ka, S_z]) O_ka ?_; simp only [Act.put])
  refine wp_gen (fun W => Cb W r6 31 (cellsOf xa) ∧ Cb W r7 31 (cellsOf xb) ∧ Cb W r8 31 (cellsOf xk) ∧ Cb W r11 31 (cellsOf kb) ∧ Cb W w9.heap.size 31 (cellsOf ka) ∧ Ext w W) K9.out ?_
  generalize w9.heap.size = r13 at *
  clear K9 w9
  rintro wA ⟨k6, k7, k8, k11, k13, xA⟩
  replace k6 := Lib.hid k6
  replace k7 := Lib.hid k7
  replace k8 := Lib.hid k8
  replace k11 := Lib.hid k11
  replace k13 := Lib.hid k13
  replace xA := Lib.hid xA
  cases hb with
  | true =>
    have eab : decide (xa = xb) = true := HB.out.symm
    obtain rfl := KB.out.1 rfl
    obtain ⟨rfl, e2, _⟩ := KA.out
    obtain rfl := e2 rfl
    replace eab := Lib.hid eab
    clear HB KB KA ZZ e2
    go_wp2_with (first
      | ((with_reducible refine wpList_load_rowW (o := ⟨some 53, _, _, _, _, _⟩) ?_ 31 _ rfl r6 ?_ 31 (cellsOf xa).toArray (0, 0) _ ?_ Try.underlying31 ?_ ?_ ?_); (· rfl); (· rfl); (· exact k6.out); (· rfl); (· rw [S_a]; rfl); simp only [Act.put, List.setIfInBounds_toArray, List.set_cons_zero, List.set_cons_succ])
      | ((with_reducible refine wpList_load_rowW (o := ⟨some 54, _, _, _, _, _⟩) ?_ 31 _ rfl r7 ?_ 31 (cellsOf xb).toArray (0, 0) _ ?_ Try.underlying31 ?_ ?_ ?_); (· rfl); (· rfl); (· exact k7.out); (· rfl); (· rw [S_b]; rfl); simp only [Act.put, List.setIfInBounds_toArray, List.set_cons_zero, List.set_cons_succ])
      | ((with_reducible refine wpList_eql_keyB (o := ⟨some 55, _, _, _, _, _⟩) ?_ _ _ _ rfl xa xb true ?_ ?_ ?_ la lb ?_); (· rfl); (· exact eab.out); (· rfl); (· rfl); simp only [Act.put, List.setIfInBounds_toArray, List.set_cons_zero, List.set_cons_succ])
      | ((with_reducible refine wpList_load_rowW (o := ⟨some 65, _, _, _, _, _⟩) ?_ 31 _ rfl r11 ?_ 31 (cellsOf kb).toArray (0, 0) _ ?_ Try.underlying31 ?_ ?_ ?_); (· rfl); (· rfl); (· exact k11.out); (· rfl); (· rw [S_kb]; rfl); simp only [Act.put, List.setIfInBounds_toArray, List.set_cons_zero, List.set_cons_succ])
      | ((with_reducible refine wpList_load_rowW (o := ⟨some 66, _, _, _, _, _⟩) ?_ 31 _ rfl r8 ?_ 31 (cellsOf kb).toArray (0, 0) _ ?_ Try.underlying31 ?_ ?_ ?_); (· rfl); (· rfl); (· exact k8.out); (· rfl); (· rw [S_kb]; rfl); simp only [Act.put, List.setIfInBounds_toArray, List.set_cons_zero, List.set_cons_succ])
      | ((with_reducible refine wpList_eql_keyB (o := ⟨some 67, _, _, _, _, _⟩) ?_ _ _ _ rfl kb kb true ?_ ?_ ?_ lk lk ?_); (· rfl); (· exact (decide_eq_true rfl)); (· rfl); (· rfl); simp only [Act.put, List.setIfInBounds_toArray, List.set_cons_zero, List.set_cons_succ])
      | ((with_reducible refine wpList_load_rowW (o := ⟨some 74, _, _, _, _, _⟩) ?_ 31 _ rfl r13 ?_ 31 (cellsOf ka).toArray (0, 0) _ ?_ Try.underlying31 ?_ ?_ ?_); (· rfl); (· rfl); (· exact k13.out); (· rfl); (· rw [S_ka]; rfl); simp only [Act.put, List.setIfInBounds_toArray, List.set_cons_zero, List.set_cons_succ])
      | ((with_reducible refine wpList_exec (o := ⟨some 75, .build 31 _, _, _, _, _⟩) (v := .agg (cellsOf ka).toArray) ?_ ?_ ?_); (· rfl); (· refine exec_build_as rfl ?_; simp only [List.map_toArray, List.map_cons, List.map_nil]; exact BZ.out); simp only [Act.put, List.setIfInBounds_toArray, List.set_cons_zero, List.set_cons_succ])
      | ((with_reducible refine wpList_eql_keyB (o := ⟨some 76, _, _, _, _, _⟩) ?_ _ _ _ rfl ka ka true ?_ ?_ ?_ lka lka ?_); (· rfl); (· exact (decide_eq_true rfl)); (· rfl); (· rfl); simp only [Act.put, List.setIfInBounds_toArray, List.set_cons_zero, List.set_cons_succ]))
    go_ret
    exact ⟨rfl, xA.out⟩
  | false =>
    have eab : decide (xa = xb) = false := HB.out.symm
    obtain rfl := KB.out.2 rfl
    obtain ⟨rfl, _, e2⟩ := KA.out
    obtain rfl := e2 rfl
    replace eab := Lib.hid eab
    clear HB KB KA ZZ e2
    go_wp2_with (first
      | ((with_reducible refine wpList_load_rowW (o := ⟨some 53, _, _, _, _, _⟩) ?_ 31 _ rfl r6 ?_ 31 (cellsOf xa).toArray (0, 0) _ ?_ Try.underlying31 ?_ ?_ ?_); (· rfl); (· rfl); (· exact k6.out); (· rfl); (· rw [S_a]; rfl); simp only [Act.put, List.setIfInBounds_toArray, List.set_cons_zero, List.set_cons_succ])
      | ((with_reducible refine wpList_load_rowW (o := ⟨some 54, _, _, _, _, _⟩) ?_ 31 _ rfl r7 ?_ 31 (cellsOf xb).toArray (0, 0) _ ?_ Try.underlying31 ?_ ?_ ?_); (· rfl); (· rfl); (· exact k7.out); (· rfl); (· rw [S_b]; rfl); simp only [Act.put, List.setIfInBounds_toArray, List.set_cons_zero, List.set_cons_succ])
      | ((with_reducible refine wpList_eql_keyB (o := ⟨some 55, _, _, _, _, _⟩) ?_ _ _ _ rfl xa xb false ?_ ?_ ?_ la lb ?_); (· rfl); (· exact eab.out); (· rfl); (· rfl); simp only [Act.put, List.setIfInBounds_toArray, List.set_cons_zero, List.set_cons_succ])
      | ((with_reducible refine wpList_load_rowW (o := ⟨some 88, _, _, _, _, _⟩) ?_ 31 _ rfl r11 ?_ 31 (cellsOf kb).toArray (0, 0) _ ?_ Try.underlying31 ?_ ?_ ?_); (· rfl); (· rfl); (· exact k11.out); (· rfl); (· rw [S_kb]; rfl); simp only [Act.put, List.setIfInBounds_toArray, List.set_cons_zero, List.set_cons_succ])
      | ((with_reducible refine wpList_exec (o := ⟨some 89, .build 31 _, _, _, _, _⟩) (v := .agg (cellsOf kb).toArray) ?_ ?_ ?_); (· rfl); (· refine exec_build_as rfl ?_; simp only [List.map_toArray, List.map_cons, List.map_nil]; exact BZ.out); simp only [Act.put, List.setIfInBounds_toArray, List.set_cons_zero, List.set_cons_succ])
      | ((with_reducible refine wpList_eql_keyB (o := ⟨some 90, _, _, _, _, _⟩) ?_ _ _ _ rfl kb kb true ?_ ?_ ?_ lkb lkb ?_); (· rfl); (· exact (decide_eq_true rfl)); (· rfl); (· rfl); simp only [Act.put, List.setIfInBounds_toArray, List.set_cons_zero, List.set_cons_succ])
      | ((with_reducible refine wpList_load_rowW (o := ⟨some 96, _, _, _, _, _⟩) ?_ 31 _ rfl r13 ?_ 31 (cellsOf ka).toArray (0, 0) _ ?_ Try.underlying31 ?_ ?_ ?_); (· rfl); (· rfl); (· exact k13.out); (· rfl); (· rw [S_ka]; rfl); simp only [Act.put, List.setIfInBounds_toArray, List.set_cons_zero, List.set_cons_succ])
      | ((with_reducible refine wpList_load_rowW (o := ⟨some 97, _, _, _, _, _⟩) ?_ 31 _ rfl r8 ?_ 31 (cellsOf ka).toArray (0, 0) _ ?_ Try.underlying31 ?_ ?_ ?_); (· rfl); (· rfl); (· exact k8.out); (· rfl); (· rw [S_ka]; rfl); simp only [Act.put, List.setIfInBounds_toArray, List.set_cons_zero, List.set_cons_succ])
      | ((with_reducible refine wpList_eql_keyB (o := ⟨some 98, _, _, _, _, _⟩) ?_ _ _ _ rfl ka ka true ?_ ?_ ?_ lka lka ?_); (· rfl); (· exact (decide_eq_true rfl)); (· rfl); (· rfl); simp only [Act.put, List.setIfInBounds_toArray, List.set_cons_zero, List.set_cons_succ]))
    go_ret
    exact ⟨rfl, xA.out⟩
end Go.Proofs.Ytonjialkfbbhpaa
