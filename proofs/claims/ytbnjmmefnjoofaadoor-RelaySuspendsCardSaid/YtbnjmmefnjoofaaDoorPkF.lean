import Derived.Test.YtbnjmmefnjoofaaDoorPkM
import Derived.Test.YtbnjmmefnjoofaaDoorPkJ
import Derived.Test.YtbnjmmefnjoofaaDoorSt16
section
/-
  Bytes that lie in memory of the call's own. No conditions.
-/
namespace Go.Proofs.YtbnjmmefnjoofaaDoor
open Go.ChangeShapes Go.WideShapes Go.ChangeAt Go.RowKit Go.Deep

/-- The call hands back bytes that lie in memory of its own. -/
def RetOwn (xs : List UInt8) (w : World) (e : Ending) (w' : World) : Prop := ∃ A n c, e = .returned (.slice A n c) ∧ Own w.heap.size w' A n c xs ∧ Ext w w'
end Go.Proofs.YtbnjmmefnjoofaaDoor
end

section
/-
  octets.High and the document's: what they hand back is a row of their own.
-/
namespace Go.Proofs.YtbnjmmefnjoofaaDoor
open Go.ChangeShapes Go.WideShapes Go.ChangeAt Go.RowKit Go.Deep

theorem Own.mono {B B' : Nat} {w : World} {A : Option Addr} {n c : Nat} {xs : List UInt8} (h : Own B w A n c xs) (hB : B' ≤ B) : Own B' w A n c xs := by
  refine ⟨h.1, ?_⟩
  rcases h.2 with h | ⟨g, cap, cur, hv, hb, r⟩
  · exact .inl h
  · exact .inr ⟨g, cap, cur, hv, Nat.le_trans hB hb, r⟩
theorem Own.of_row {B b n : Nat} {w : World} {f : Nat → Value} {xs : List UInt8} (hl : xs.length = n) (hn : n ≤ 281474976710656) (hB : B ≤ b) (h : w.rowIs b 5 n f) (hf : ∀ j, j < n → f j = .int .u8 (bt xs j : Int)) : Own B w (some ⟨b, 0, none⟩) n n xs := by
  obtain ⟨c, h1, h2, h3⟩ := h
  refine ⟨by rw [List.length_map, hl, Nat.mul_one], .inr ⟨b, n, c, rfl, hB, h1, Nat.le_refl _, by unfold maxLen; omega, by rw [h2, Nat.mul_one], ?_⟩⟩
  rw [Nat.mul_one, List.take_of_length_le (by simp [h2])]
  apply List.ext_getElem?
  intro j
  by_cases hj : j < n
  · rw [Array.getElem?_toList, h3 j hj, hf j hj, u8v_bt (by omega)]
  · rw [List.getElem?_eq_none (by simp [h2]; omega), List.getElem?_eq_none (by simp [hl]; omega)]
set_option maxHeartbeats 400000 in
theorem reversedO_calls {A : Option Addr} {n c : Nat} {xs : List UInt8} {w : World} (h : Bs w A n c xs) (hm : n ≤ 281474976710656) :
    Calls Tryd.prog 65 #[.slice A n c] w (RetOwn xs.reverse w) := by
  have h1 := h.le
  have h2 := h.cap
  have hmk := make8 n hm
  go_enter Tryd.func65, Tryd.ntmps65
  go_wp2
  clear hmk
  go_loopw [10] (fun i wr => ∃ k : Nat, k ≤ n ∧ i = .int .i64 k ∧ FillBack w wr n k (fun j => bt xs (n - 1 - j))) (fun i _ => n - (intOf i).toNat)
  case atStart => exact ⟨0, Nat.zero_le _, rfl, (Ext.refl w).alloc _, (World.rowIs_made w _ n _).congr fun i hi => by rw [if_neg (by omega)]⟩
  case round =>
    obtain ⟨k, hk, rfl, hf⟩ := hrel
    by_cases hlt : k < n
    · obtain ⟨b, off, rfl, hb, hc⟩ := h.pos (by omega)
      have g1 := (hf.1.cell (p := ⟨b, off + k, none⟩) hb).trans (hc k hlt)
      have g3 := hf.2.cell (i := n - 1 - k) (by omega)
      rw [if_neg (by omega)] at g3
      have g4 := hf.2.frozen (n - 1 - k)
      clear hc
      go_wp2
      go_roundw
      case rel =>
        exact ⟨k + 1, by omega, by go_num, hf.step (by omega) (by rw [show n - 1 - (n - 1 - k) = k by omega])⟩
      case measure => simp [intOf]; omega
    · obtain rfl : k = n := by omega
      go_wp2
      go_ret
      refine ⟨_, _, _, rfl, Own.of_row (by rw [List.length_reverse, h.len]) (by omega) (Nat.le_refl _) hf.2 fun j hj => ?_, hf.1⟩
      rw [if_pos (by omega), bt_reverse (by rw [h.len]; exact hj), h.len]

set_option maxHeartbeats 400000 in
theorem highO_calls {n m : Nat} {many : Int} {w : World} (hn : n < 18446744073709551616) (h1 : 0 ≤ many) (h2 : many ≤ 9223372036854775807) (hm8 : m ≤ 8) (hM : (if (8 : Int) < many then 8 else many) = (m : Int)) :
    Calls Tryd.prog 41 #[.int .u64 (n : Int), .int .i64 many] w (RetOwn (lowL n m).reverse w) := by
  have hM' := Lib.hid hM
  clear hM
  go_enter Tryd.func41, Tryd.ntmps41
  go_wp2_with fail
  refine (low_calls hn h1 h2 hm8 hM'.out).mono ?_
  rintro e w1 ⟨A, k, c, rfl, hb, he⟩
  go_wp2_with fail
  have hk : k ≤ 8 := by have := hb.len; rw [lowL_len] at this; omega
  refine (reversedO_calls hb (by omega)).mono ?_
  rintro e w2 ⟨A, k, c, rfl, hb2, he2⟩
  go_wp2_with fail
  go_ret
  exact ⟨_, _, _, rfl, hb2.mono he.size, he.trans he2⟩
set_option maxHeartbeats 1000000 in
theorem refHighO_calls {n m : Nat} {many : Int} {w : World} (hn : n < 18446744073709551616) (h1 : 0 ≤ many) (h2 : many ≤ 9223372036854775807) (hm8 : m ≤ 8) (hM : (if (8 : Int) < many then 8 else many) = (m : Int)) :
    Calls Tryd.prog 80 #[.int .u64 (n : Int), .int .i64 many] w (RetOwn (lowL n m).reverse w) := by
  have hz : lowAt n 0 = n := by simp [lowAt]
  have hM' : m = many ∨ (m = 8 ∧ 8 < many) := by
    by_cases q : (8 : Int) < many
    · rw [if_pos q] at hM; right; omega
    · rw [if_neg q] at hM; left; omega
  clear hM
  go_enter Tryd.func80, Tryd.ntmps80
  go_wp2
  go_loopw [0, 5, 6] (fun x v i wr => ∃ (k cc : Nat) (D : Option Addr), k ≤ m ∧ i = .int .i64 k ∧ x = .int .u64 (lowAt n k : Int) ∧ v = .slice D k cc ∧ Own w.heap.size wr D k cc (lowL n k).reverse ∧ Ext w wr) (fun _ _ i _ => m - (intOf i).toNat)
  case atStart => exact ⟨0, 0, none, Nat.zero_le _, rfl, by rw [hz], rfl, Own.nil _ _, Ext.refl _⟩
  case round =>
    obtain ⟨k, cc, D, hk, rfl, rfl, rfl, ho, hE⟩ := hrel
    clear hz
    by_cases hlt : k < m
    · have t1 : (k : Int) < 8 := by omega
      have t2 : (k : Int) < many := by omega
      have hle := Nat.lt_of_le_of_lt (lowAt_le n k) hn
      have hsz := hE.size
      have hv := Lib.hid (lowAt_u8 n k)
      clear hM'
      go_wp2_with (at_builtin; refine wpList_append_bs rfl (B := w.heap.size) rfl rfl rfl (Own.one8 wr w.heap.size hsz (UInt8.ofNat (n / 256 ^ k)) _ hv.out) (ho.bs.ext ((Ext.refl _).alloc _)) (by omega) (by simp; omega) ?_; intro D' cc' w2 ho2 hg2 hbl)
      go_roundw
      case rel => exact ⟨k + 1, cc', D', by omega, by go_num, congrArg (Value.int .u64) (lowAt_int n k), by rw [Nat.add_comm], by rw [lowL_snoc, List.reverse_append, Nat.add_comm k 1]; exact ho2, (hE.alloc _).trans' hbl⟩
      case measure => simp [intOf]; omega
    · obtain rfl : k = m := by omega
      rcases hM' with hM' | ⟨rfl, hM'⟩
      · subst hM'
        go_wp2
        go_ret
        exact ⟨_, _, _, rfl, ho, hE⟩
      · go_wp2
        go_ret
        exact ⟨_, _, _, rfl, ho, hE⟩
end Go.Proofs.YtbnjmmefnjoofaaDoor
end

section
/-
  stamp.told, stamp.Bytes.
-/
namespace Go.Proofs.YtbnjmmefnjoofaaDoor
open Go.ChangeShapes Go.WideShapes Go.ChangeAt Go.RowKit Go.Deep
set_option maxRecDepth 100000

theorem st_parts {ep f t tm : Int} {cm tg : List UInt8} (lc : cm.length = 32) : stC ep f t tm cm tg = [.int .i64 ep, .int .i64 f, .int .i64 t, .int .i64 tm] ++ (cellsOf cm ++ cellsOf tg) ∧ stC ep f t tm cm tg = ([.int .i64 ep, .int .i64 f, .int .i64 t, .int .i64 tm] ++ cellsOf cm) ++ (cellsOf tg ++ []) ∧ ([Value.int .i64 ep, .int .i64 f, .int .i64 t, .int .i64 tm] ++ cellsOf cm).length = 36 := ⟨rfl, by simp [stC], by simp [cellsOf_len, lc]⟩
set_option maxHeartbeats 4000000 in
theorem told_calls {w : World} {ep : Int} {f t tm : Nat} {cm tg : List UInt8} (lc : cm.length = 32) (hf : f ≤ 7) (ht : t ≤ 7) (htm : tm ≤ 1000000) : Calls Tryd.prog 52 #[.agg (stC ep f t tm cm tg).toArray] w (RetOwn (toldL f t tm cm) w) := by
  have H1 : Hid (∀ (W : World), Calls Tryd.prog 41 #[.int .u64 (f : Int), .int .i64 1] W (RetOwn (hiB f 1) W)) := fun W => highO_calls (by omega) (by omega) (by omega) (by omega) rfl
  have H2 : Hid (∀ (W : World), Calls Tryd.prog 41 #[.int .u64 (t : Int), .int .i64 1] W (RetOwn (hiB t 1) W)) := fun W => highO_calls (by omega) (by omega) (by omega) (by omega) rfl
  have H4 : Hid (∀ (W : World), Calls Tryd.prog 41 #[.int .u64 (tm : Int), .int .i64 4] W (RetOwn (hiB tm 4) W)) := fun W => highO_calls (by omega) (by omega) (by omega) (by omega) rfl
  have u1 : IntKind.u64.wrap (f : Int) = (f : Int) := IntWalk.u64_in _ (by omega)
  have u2 : IntKind.u64.wrap (t : Int) = (t : Int) := IntWalk.u64_in _ (by omega)
  have u3 : IntKind.u64.wrap (tm : Int) = (tm : Int) := IntWalk.u64_in _ (by omega)
  have c1 : Hid ((stC ep f t tm cm tg)[1]? = some (.int .i64 (f : Int))) := rfl
  have c2 : Hid ((stC ep f t tm cm tg)[2]? = some (.int .i64 (t : Int))) := rfl
  have c3 : Hid ((stC ep f t tm cm tg)[3]? = some (.int .i64 (tm : Int))) := rfl
  have cc := Lib.hid (fun _ : Unit => (st_parts (ep := ep) (f := f) (t := t) (tm := tm) (tg := tg) lc).1)
  have hR : Hid (((hiB f 1 ++ hiB t 1) ++ hiB tm 4) ++ cm = toldL f t tm cm) := rfl
  have l1 := hiB_len f 1
  have l2 := hiB_len t 1
  have l4 := hiB_len tm 4
  generalize toldL f t tm cm = R at *
  generalize stC ep f t tm cm tg = st at *
  generalize hiB f 1 = b1 at *
  generalize hiB t 1 = b2 at *
  generalize hiB tm 4 = b4 at *
  clear hf ht htm
  obtain ⟨r, hr⟩ : ∃ r, r = w.heap.size := ⟨_, rfl⟩
  have B0 : Hid (Cb (w.alloc (Obj.cells st.toArray 67)) r 67 st ∧ Ext w (w.alloc (Obj.cells st.toArray 67))) := by rw [hr]; exact ⟨Cb.new _ _ _, (Ext.refl w).alloc _⟩
  go_enter Tryd.func52, Tryd.ntmps52
  go_upto_region 1 with fail
  refine wp_gen (fun W => Cb W r 67 st ∧ Ext w W) B0.out ?_
  rw [← hr]
  have wr : w.heap.size ≤ r := Nat.le_of_eq hr.symm
  clear B0
  replace hr := Lib.hid hr
  rintro w0 ⟨k0, x0⟩
  have g0 := k0.cell c1.out
  have z0 : r + 1 ≤ w0.heap.size := k0.lt
  replace k0 := Lib.hid k0
  replace x0 := Lib.hid x0
  go_wp2_with fail
  refine (H1.out _).mono ?_
  rintro e w1 ⟨A1, n1, m1, rfl, o1, e1⟩
  obtain rfl : n1 = 1 := by rw [← o1.len, l1]
  replace o1 := Lib.hid (o1.mono z0)
  have k1 := Lib.hid (k0.out.ext e1)
  have x1 := Lib.hid (x0.out.trans e1)
  have g1 := k1.out.cell c2.out
  clear g0 k0 x0 e1 H1 z0
  go_wp2_with fail
  refine (H2.out _).mono ?_
  rintro e w2 ⟨A2, n2, m2, rfl, o2, e2⟩
  obtain rfl : n2 = 1 := by rw [← o2.len, l2]
  replace o1 := Lib.hid (o1.out.ext e2)
  replace o2 := Lib.hid o2.bs
  have k2 := Lib.hid (k1.out.ext e2)
  have x2 := Lib.hid (x1.out.trans e2)
  have z2 : r + 1 ≤ w2.heap.size := k2.out.lt
  clear g1 k1 x1 e2 H2
  go_upto_region 3 with (at_builtin; (with_reducible refine wpList_append_bs rfl (B := r + 1) (s := .tmp 8) (x := .tmp 12) rfl rfl rfl o1.out o2.out (by omega) z2 ?_); intro A3 m3 w3 o3 g3 d3; replace o3 := Lib.hid o3; clear g3; replace d3 := Lib.hid d3; go_frame)
  refine wp_gen (fun W => Own (r + 1) W A3 (1 + 1) m3 (b1 ++ b2) ∧ Cb W r 67 st ∧ Ext w W) ⟨o3.out, k2.out.kept d3.out (by omega), Below.trans x2.out (d3.out.mono (by omega))⟩ ?_
  clear o3 d3 o1 o2 k2 x2 z2
  rintro w4 ⟨o3, k3, x3⟩
  have g3 := k3.cell c3.out
  replace o3 := Lib.hid o3
  replace k3 := Lib.hid k3
  replace x3 := Lib.hid x3
  go_wp2_with fail
  refine (H4.out _).mono ?_
  rintro e w5 ⟨A5, n5, m5, rfl, o5, e5⟩
  obtain rfl : n5 = 4 := by rw [← o5.len, l4]
  have o4 := Lib.hid (o3.out.ext e5)
  replace o5 := Lib.hid o5.bs
  have k5 := Lib.hid (k3.out.ext e5)
  have x5 := Lib.hid (x3.out.trans e5)
  have z5 : r + 1 ≤ w5.heap.size := k5.out.lt
  clear g3 o3 k3 x3 e5 H4
  go_upto_region 4 with (at_builtin; (with_reducible refine wpList_append_bs rfl (B := r + 1) (s := .tmp 14) (x := .tmp 18) rfl rfl rfl o4.out o5.out (by omega) z5 ?_); intro A6 m6 w6 o6 g6 d6; replace o6 := Lib.hid o6; clear g6; replace d6 := Lib.hid d6; go_frame)
  refine wp_gen (fun W => Own (r + 1) W A6 (1 + 1 + 4) m6 ((b1 ++ b2) ++ b4) ∧ Cb W r 67 st ∧ Ext w W) ⟨o6.out, k5.out.kept d6.out (by omega), Below.trans x5.out (d6.out.mono (by omega))⟩ ?_
  clear o6 d6 o4 o5 k5 x5 z5
  rintro w7 ⟨o7, k7, x7⟩
  have b7 := Lib.hid (k7.bs (cc.out ()) rfl lc (by omega))
  have z7 : r + 1 ≤ w7.heap.size := k7.lt
  replace o7 := Lib.hid o7
  replace x7 := Lib.hid x7
  clear k7
  go_wp2_with (at_builtin; (with_reducible refine wpList_append_bs rfl (B := r + 1) (s := .tmp 20) (x := .tmp 22) rfl rfl rfl o7.out b7.out (by omega) z7 ?_); intro A8 m8 w8 o8 g8 d8; replace o8 := Lib.hid o8; clear g8; replace d8 := Lib.hid d8; go_frame)
  go_ret
  exact ⟨_, _, _, rfl, by rw [← hR.out]; exact o8.out.mono (by omega), Below.trans x7.out (d8.out.mono (by omega))⟩
end Go.Proofs.YtbnjmmefnjoofaaDoor
end
