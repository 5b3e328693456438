import Derived.Test.YteaoacinhdjkeaaJsM
import Derived.Test.YteaoacinhdjkeaaPkG
section
/-
  Rows beside a journal that is opened anew; rows joined.
-/
namespace Go.Proofs.Yteaoacinhdjkeaa
open Go.ChangeShapes Go.WideShapes Go.ChangeAt Go.RowKit Go.Deep Go.Maps
set_option maxRecDepth 100000

section
variable {w W W' : World} {g dg r mb : Nat} {d : Ds} {B : Nat} {D : Option Addr} {c : Nat} {L : List (List UInt8)} {Dq : Option Addr} {cq : Nat} {S : List (List UInt8)} {Du : Option Addr} {cu : Nat} {U : List (List UInt8)}
theorem SU.reopen (h : SU w W g dg r mb d B D c L Dq cq S Du cu U) : Calls Try.prog 14 #[.pointer (some ⟨dg, 0, none⟩)] W fun e W2 => ∃ g' D' c', e = .returned (.tuple #[.pointer (some ⟨g', 0, none⟩), .int .i64 0]) ∧ SU w W2 g' dg r mb d W.heap.size D' c' d.recs Dq cq S Du cu U := by
  obtain ⟨R, Rq, h1, h2, h3, h4, h5, h6, h7, h8⟩ := h
  refine (JN.opened h1.dk h1.ex h1.wd h1.wr h1.wm).mono ?_
  rintro e W2 ⟨g', D', c', he, j2, x2⟩
  have lo := j2.jk.2.1.ge
  have Wl := h1.ex.size
  refine ⟨g', D', c', he, _, fun i => Rq i ∨ W.heap.size ≤ i, j2, (h2.forbid fun i hi q => q.elim id fun z => by omega).ext x2, (h3.forbid fun i hi q => q.elim id fun z => by omega).ext x2, .inl h4, fun i q => .inr (lo i q).1, fun i q => ?_, fun i q => ⟨(h2.ge i q).2, fun q2 => ?_⟩, fun i q q2 => ?_⟩
  · rcases q with q | q
    · exact h6 i q
    · omega
  · have := (lo i q2).1
    have := (h2.ge i q).2
    omega
  · have := (lo i q2).1
    have := (h3.ge i q).2
    omega
theorem SU.got (h : SU w W g dg r mb d B D c L Dq cq S Du cu U) {Dg : Option Addr} {cg : Nat} (o : OwnG W.heap.size W' Dg L.length cg L) (x : Ext W W') : SU w W' g dg r mb d B D c L Dg cg L none 0 [] := by
  obtain ⟨R, Rq, h1, h2, h3, h4, h5, h6, h7, h8⟩ := h
  have lo := o.ge
  have lt : ∀ i, Value.ownBlock (.slice Dg L.length cg) = some i → i < W'.heap.size := fun i q => by
    obtain ⟨vs, o1, _⟩ := o
    exact (World.ownsRow.lt o1 i q).2
  have Wl := h1.ex.size
  refine ⟨fun i => R i ∨ Value.ownBlock (.slice Dg L.length cg) = some i, fun i => w.heap.size ≤ i ∧ i < W.heap.size, h1.other (o := none) ⟨x.os, x.tape, x.output, x.size, fun i hi _ => x.block i hi⟩ (fun i hi q => ?_) (.inl h1.rR) (fun i q => ?_) (fun i q => by cases q), (o.toS fun i q => q.2).lower Wl, OwnS.nil _ _ _, ⟨h1.wr, h1.dk.row.lt⟩, fun i q => ⟨Nat.le_trans h1.wB (h1.jk.2.1.ge i q).1, (h1.jk.2.1.ge i q).2⟩, fun i q => q.1, fun i q => ⟨.inr q, fun q2 => ?_⟩, fun i q => by cases q⟩
  · rcases q with q | q
    · exact q
    · have := lo i q; omega
  · rcases q with q | q
    · exact Nat.lt_of_lt_of_le (h1.rw i q) x.size
    · exact lt i q
  · have := lo i q
    have := (h1.jk.2.1.ge i q2).2
    omega
theorem SU.sure (h : SU w W g dg r mb d B D c L Dq cq S Du cu U) : ∃ Rq, OwnS w.heap.size Rq W Dq S.length cq S := by obtain ⟨R, Rq, h1, h2, _⟩ := h; exact ⟨Rq, h2⟩
theorem SU.und (h : SU w W g dg r mb d B D c L Dq cq S Du cu U) : ∃ Rq, OwnS w.heap.size Rq W Du U.length cu U := by obtain ⟨R, Rq, h1, _, h3, _⟩ := h; exact ⟨Rq, h3⟩
theorem SU.jk (h : SU w W g dg r mb d B D c L Dq cq S Du cu U) : ∃ R, JS B R W g dg D c L := by obtain ⟨R, Rq, h1, _⟩ := h; exact ⟨R, h1.jk⟩
end
theorem cell_lt {w : World} {p : Addr} {v : Value} (h : w.cell? p = some v) : p.block < w.heap.size := by
  rcases Nat.lt_or_ge p.block w.heap.size with q | q
  · exact q
  · exfalso
    unfold World.cell? at h
    rw [Array.getElem?_eq_none q] at h
    cases h
/-- Rows are appended onto a row that is new since W. -/
theorem wp_append_on {W w : World} {o : Oper} {a : Act} {K : Act → World → Prop} {Q : Exit → Act → World → Prop} {D E : Option Addr} {n c m c' Bq : Nat} {Rq : Nat → Prop} {l ys : List (List UInt8)} {s x : Operand}
    (ho : o.op = .call { callee := .builtin .append, args := #[s, x], argTypes := #[50, 50] }) (hs : a.eval s = .slice D n c) (hx : a.eval x = .slice E m c')
    (h : OwnS W.heap.size (fun _ => False) w D n c l) (xw : Ext W w) (k : OwnS Bq Rq W E m c' ys) (hm : n + m ≤ 1000000)
    (hK : ∀ D'' c'' w', OwnS W.heap.size (fun _ => False) w' D'' (n + m) c'' (l ++ ys) → Ext W w' → K (a.put o.dst (.slice D'' (n + m) c'')) w') : o.wp Try.prog a w K Q := by
  obtain ⟨vs, v1, v2, v3⟩ := k.src
  have lo := h.ge
  refine wp_append_gs ho hs hx h v1 k.len (fun h0 => ?_) (fun j hj => ?_) hm xw.size fun D'' c'' w' o' g' _ => hK D'' c'' w' o' ?_
  · obtain ⟨ad, e, hc⟩ := v2 h0
    exact ⟨ad, e, fun j u hu => (xw.cell (cell_lt (hc j u hu))).trans (hc j u hu)⟩
  · obtain ⟨A', n', c', e1, e2, _⟩ := v3 j hj
    refine ⟨A', n', c', e1, e2.ext xw, fun h0 a ha => ⟨fun q => ?_, id⟩⟩
    obtain ⟨b, off, e, hb, _⟩ := e2.pos h0
    rw [e] at ha
    injection ha with ha
    subst ha
    have := (lo _ q.symm).1
    simp only at this
    omega
  · exact Ot.ext (p := fun i => Value.ownBlock (.slice D n c) = some i) xw ⟨g'.os, g'.tape, g'.output, g'.size, fun i hi hn => g'.block i hi (fun q => hn q.symm)⟩ (fun i q => (lo i q).1)
end Go.Proofs.Yteaoacinhdjkeaa
end

section
/-
  A literal of one byte. No conditions.
-/
namespace Go.Proofs.Yteaoacinhdjkeaa
open Go.ChangeShapes Go.WideShapes Go.ChangeAt Go.RowKit Go.Deep

theorem Bs.lit8 (w : World) (t : TypeId) (xs : List UInt8) (cs : Array Value) (hcs : cs = (xs.map fun x => Value.int .u8 (x.toNat : Int)).toArray) (n : Nat) (hn : xs.length = n) (hm : n ≤ 1000000) :
    Bs (w.alloc (.cells cs t)) (some ⟨w.heap.size, 0, none⟩) n n xs := by
  subst hcs
  have hr := World.rowIs_alloc w (xs.map fun x => Value.int .u8 (x.toNat : Int)).toArray t (fun i => .int .u8 (bt xs i : Int)) (fun i hi => by
    have hi' : i < xs.length := by simpa using hi
    simp [bt, List.getD, hi'])
  refine ⟨hn, Nat.le_refl _, by unfold maxLen; omega, fun _ => ⟨w.heap.size, 0, rfl, by simp, fun j hj => ?_⟩⟩
  rw [Nat.zero_add]
  exact hr.cell (by simp; omega)
theorem Bs.one8 (w : World) (t : TypeId) (x : UInt8) (v : Int) (hv : v = (x.toNat : Int)) : Bs (w.alloc (.cells #[.int .u8 v] t)) (some ⟨w.heap.size, 0, none⟩) 1 1 [x] :=
  Bs.lit8 w t [x] _ (by rw [hv]; rfl) 1 rfl (by omega)
end Go.Proofs.Yteaoacinhdjkeaa
end

section
/-
  The document's High.
-/
namespace Go.Proofs.Yteaoacinhdjkeaa
open Go.ChangeShapes Go.WideShapes Go.ChangeAt Go.RowKit Go.Deep

theorem lowL_snoc (n k : Nat) : lowL n (k + 1) = lowL n k ++ [UInt8.ofNat (n / 256 ^ k)] := by
  unfold lowL
  rw [List.range_succ, List.map_append]
  rfl
theorem lowAt_u8 (n k : Nat) : (lowAt n k : Int) % 256 = ((UInt8.ofNat (n / 256 ^ k)).toNat : Int) := by
  rw [lowAt_byte, UInt8.toNat_ofNat']

theorem Own.one8 (w : World) (B : Nat) (hB : B ≤ w.heap.size) (x : UInt8) (v : Int) (hv : v = (x.toNat : Int)) : Own B (w.alloc (.cells #[.int .u8 v] 5)) (some ⟨w.heap.size, 0, none⟩) 1 1 [x] := by
  subst hv
  exact World.ownsRow_lit (e := 5) (size := 1) w #[.int .u8 (x.toNat : Int)] 1 hB (by unfold maxLen; omega) rfl

set_option maxHeartbeats 1000000 in
theorem refHigh_calls {n m : Nat} {many : Int} {w : World} (hn : n < 18446744073709551616) (h1 : 0 ≤ many) (h2 : many ≤ 9223372036854775807) (hm8 : m ≤ 8) (hM : (if (8 : Int) < many then 8 else many) = (m : Int)) :
    Calls Try.prog 67 #[.int .u64 (n : Int), .int .i64 many] w (RetBs (lowL n m).reverse w) := by
  have hz : lowAt n 0 = n := by simp [lowAt]
  have hM' : m = many ∨ (m = 8 ∧ 8 < many) := by
    by_cases q : (8 : Int) < many
    · rw [if_pos q] at hM; right; omega
    · rw [if_neg q] at hM; left; omega
  clear hM
  go_enter Try.func67, Try.ntmps67
  go_wp2
  go_loopw [0, 5, 6] (fun x v i wr => ∃ (k cc : Nat) (D : Option Addr), k ≤ m ∧ i = .int .i64 k ∧ x = .int .u64 (lowAt n k : Int) ∧ v = .slice D k cc ∧ Bs wr D k cc (lowL n k).reverse ∧ Ext w wr) (fun _ _ i _ => m - (intOf i).toNat)
  case atStart => exact ⟨0, 0, none, Nat.zero_le _, rfl, by rw [hz], rfl, Bs.nil _, Ext.refl _⟩
  case round =>
    obtain ⟨k, cc, D, hk, rfl, rfl, rfl, ho, hE⟩ := hrel
    clear hz
    by_cases hlt : k < m
    · have t1 : (k : Int) < 8 := by omega
      have t2 : (k : Int) < many := by omega
      have hle := Nat.lt_of_le_of_lt (lowAt_le n k) hn
      have hsz := hE.size
      have hv := Lib.hid (lowAt_u8 n k)
      clear hM'
      go_wp2_with (at_builtin; refine wpList_append_bs rfl (B := w.heap.size) rfl rfl rfl (Own.one8 wr w.heap.size hsz (UInt8.ofNat (n / 256 ^ k)) _ hv.out) (ho.ext ((Ext.refl _).alloc _)) (by omega) (by simp; omega) ?_; intro D' cc' w2 ho2 hg2 hbl)
      go_roundw
      case rel => exact ⟨k + 1, cc', D', by omega, by go_num, congrArg (Value.int .u64) (lowAt_int n k), by rw [Nat.add_comm], by rw [lowL_snoc, List.reverse_append, Nat.add_comm k 1]; exact ho2.bs, (hE.alloc _).trans' hbl⟩
      case measure => simp [intOf]; omega
    · obtain rfl : k = m := by omega
      rcases hM' with hM' | ⟨rfl, hM'⟩
      · subst hM'
        go_wp2
        go_ret
        exact ⟨_, _, _, rfl, ho, hE⟩
      · go_wp2
        go_ret
        exact ⟨_, _, _, rfl, ho, hE⟩
end Go.Proofs.Yteaoacinhdjkeaa
end

section
/-
  octets.High and the document's: what they hand back is a row of their own.
-/
namespace Go.Proofs.Yteaoacinhdjkeaa
open Go.ChangeShapes Go.WideShapes Go.ChangeAt Go.RowKit Go.Deep

theorem Own.mono {B B' : Nat} {w : World} {A : Option Addr} {n c : Nat} {xs : List UInt8} (h : Own B w A n c xs) (hB : B' ≤ B) : Own B' w A n c xs := by
  refine ⟨h.1, ?_⟩
  rcases h.2 with h | ⟨g, cap, cur, hv, hb, r⟩
  · exact .inl h
  · exact .inr ⟨g, cap, cur, hv, Nat.le_trans hB hb, r⟩
theorem Own.of_row {B b n : Nat} {w : World} {f : Nat → Value} {xs : List UInt8} (hl : xs.length = n) (hn : n ≤ 281474976710656) (hB : B ≤ b) (h : w.rowIs b 5 n f) (hf : ∀ j, j < n → f j = .int .u8 (bt xs j : Int)) : Own B w (some ⟨b, 0, none⟩) n n xs := by
  obtain ⟨c, h1, h2, h3⟩ := h
  refine ⟨by rw [List.length_map, hl, Nat.mul_one], .inr ⟨b, n, c, rfl, hB, h1, Nat.le_refl _, by unfold maxLen; omega, by rw [h2, Nat.mul_one], ?_⟩⟩
  rw [Nat.mul_one, List.take_of_length_le (by simp [h2])]
  apply List.ext_getElem?
  intro j
  by_cases hj : j < n
  · rw [Array.getElem?_toList, h3 j hj, hf j hj, u8v_bt (by omega)]
  · rw [List.getElem?_eq_none (by simp [h2]; omega), List.getElem?_eq_none (by simp [hl]; omega)]
set_option maxHeartbeats 400000 in
theorem reversedO_calls {A : Option Addr} {n c : Nat} {xs : List UInt8} {w : World} (h : Bs w A n c xs) (hm : n ≤ 281474976710656) :
    Calls Try.prog 74 #[.slice A n c] w (RetOwn xs.reverse w) := by
  have h1 := h.le
  have h2 := h.cap
  have hmk := make8 n hm
  go_enter Try.func74, Try.ntmps74
  go_wp2
  clear hmk
  go_loopw [10] (fun i wr => ∃ k : Nat, k ≤ n ∧ i = .int .i64 k ∧ FillBack w wr n k (fun j => bt xs (n - 1 - j))) (fun i _ => n - (intOf i).toNat)
  case atStart => exact ⟨0, Nat.zero_le _, rfl, (Ext.refl w).alloc _, (World.rowIs_made w _ n _).congr fun i hi => by rw [if_neg (by omega)]⟩
  case round =>
    obtain ⟨k, hk, rfl, hf⟩ := hrel
    by_cases hlt : k < n
    · obtain ⟨b, off, rfl, hb, hc⟩ := h.pos (by omega)
      have g1 := (hf.1.cell (p := ⟨b, off + k, none⟩) hb).trans (hc k hlt)
      have g3 := hf.2.cell (i := n - 1 - k) (by omega)
      rw [if_neg (by omega)] at g3
      have g4 := hf.2.frozen (n - 1 - k)
      clear hc
      go_wp2
      go_roundw
      case rel =>
        exact ⟨k + 1, by omega, by go_num, hf.step (by omega) (by rw [show n - 1 - (n - 1 - k) = k by omega])⟩
      case measure => simp [intOf]; omega
    · obtain rfl : k = n := by omega
      go_wp2
      go_ret
      refine ⟨_, _, _, rfl, Own.of_row (by rw [List.length_reverse, h.len]) (by omega) (Nat.le_refl _) hf.2 fun j hj => ?_, hf.1⟩
      rw [if_pos (by omega), bt_reverse (by rw [h.len]; exact hj), h.len]

set_option maxHeartbeats 400000 in
theorem highO_calls {n m : Nat} {many : Int} {w : World} (hn : n < 18446744073709551616) (h1 : 0 ≤ many) (h2 : many ≤ 9223372036854775807) (hm8 : m ≤ 8) (hM : (if (8 : Int) < many then 8 else many) = (m : Int)) :
    Calls Try.prog 66 #[.int .u64 (n : Int), .int .i64 many] w (RetOwn (lowL n m).reverse w) := by
  have hM' := Lib.hid hM
  clear hM
  go_enter Try.func66, Try.ntmps66
  go_wp2_with fail
  refine (low_calls hn h1 h2 hm8 hM'.out).mono ?_
  rintro e w1 ⟨A, k, c, rfl, hb, he⟩
  go_wp2_with fail
  have hk : k ≤ 8 := by have := hb.len; rw [lowL_len] at this; omega
  refine (reversedO_calls hb (by omega)).mono ?_
  rintro e w2 ⟨A, k, c, rfl, hb2, he2⟩
  go_wp2_with fail
  go_ret
  exact ⟨_, _, _, rfl, hb2.mono he.size, he.trans he2⟩
set_option maxHeartbeats 1000000 in
theorem refHighO_calls {n m : Nat} {many : Int} {w : World} (hn : n < 18446744073709551616) (h1 : 0 ≤ many) (h2 : many ≤ 9223372036854775807) (hm8 : m ≤ 8) (hM : (if (8 : Int) < many then 8 else many) = (m : Int)) :
    Calls Try.prog 67 #[.int .u64 (n : Int), .int .i64 many] w (RetOwn (lowL n m).reverse w) := by
  have hz : lowAt n 0 = n := by simp [lowAt]
  have hM' : m = many ∨ (m = 8 ∧ 8 < many) := by
    by_cases q : (8 : Int) < many
    · rw [if_pos q] at hM; right; omega
    · rw [if_neg q] at hM; left; omega
  clear hM
  go_enter Try.func67, Try.ntmps67
  go_wp2
  go_loopw [0, 5, 6] (fun x v i wr => ∃ (k cc : Nat) (D : Option Addr), k ≤ m ∧ i = .int .i64 k ∧ x = .int .u64 (lowAt n k : Int) ∧ v = .slice D k cc ∧ Own w.heap.size wr D k cc (lowL n k).reverse ∧ Ext w wr) (fun _ _ i _ => m - (intOf i).toNat)
  case atStart => exact ⟨0, 0, none, Nat.zero_le _, rfl, by rw [hz], rfl, Own.nil _ _, Ext.refl _⟩
  case round =>
    obtain ⟨k, cc, D, hk, rfl, rfl, rfl, ho, hE⟩ := hrel
    clear hz
    by_cases hlt : k < m
    · have t1 : (k : Int) < 8 := by omega
      have t2 : (k : Int) < many := by omega
      have hle := Nat.lt_of_le_of_lt (lowAt_le n k) hn
      have hsz := hE.size
      have hv := Lib.hid (lowAt_u8 n k)
      clear hM'
      go_wp2_with (at_builtin; refine wpList_append_bs rfl (B := w.heap.size) rfl rfl rfl (Own.one8 wr w.heap.size hsz (UInt8.ofNat (n / 256 ^ k)) _ hv.out) (ho.bs.ext ((Ext.refl _).alloc _)) (by omega) (by simp; omega) ?_; intro D' cc' w2 ho2 hg2 hbl)
      go_roundw
      case rel => exact ⟨k + 1, cc', D', by omega, by go_num, congrArg (Value.int .u64) (lowAt_int n k), by rw [Nat.add_comm], by rw [lowL_snoc, List.reverse_append, Nat.add_comm k 1]; exact ho2, (hE.alloc _).trans' hbl⟩
      case measure => simp [intOf]; omega
    · obtain rfl : k = m := by omega
      rcases hM' with hM' | ⟨rfl, hM'⟩
      · subst hM'
        go_wp2
        go_ret
        exact ⟨_, _, _, rfl, ho, hE⟩
      · go_wp2
        go_ret
        exact ⟨_, _, _, rfl, ho, hE⟩
end Go.Proofs.Yteaoacinhdjkeaa
end
