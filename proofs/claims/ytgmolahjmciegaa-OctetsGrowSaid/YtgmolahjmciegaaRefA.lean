/-
  The document's answers for layer 1: Xor, Same, OfLow, OfHigh, Low, High.
-/
import Derived.Test.YtgmolahjmciegaaOwn
import Derived.Test.YtgmolahjmciegaaOfHigh
namespace Go.Proofs.Ytgmolahjmciegaa
open Go.ChangeShapes Go.WideShapes Go.ChangeAt Go.RowKit Go.Deep

theorem Bs.one (w : World) (t : TypeId) (x : UInt8) (v : Int) (hv : v = (x.toNat : Int)) : Bs (w.alloc (.cells #[.int .u8 v] t)) (some ⟨w.heap.size, 0, none⟩) 1 1 [x] :=
  Bs.lit w t [x] _ (by rw [hv]; rfl) 1 rfl (by omega)

theorem take_xor {xs ys : List UInt8} (h : xs.length = ys.length) {k : Nat} (hk : k < xs.length) : (xorL xs ys).take (k + 1) = (xorL xs ys).take k ++ [UInt8.ofNat (bt xs k ^^^ bt ys k)] := by
  rw [List.take_succ_eq_append_getElem (by rw [xorL_len h]; exact hk)]
  congr 1
  have hk2 : k < ys.length := by omega
  simp [xorL, bt, List.getD, hk, hk2]

set_option maxHeartbeats 1000000 in
theorem refXor_calls {A A' : Option Addr} {n c c' : Nat} {xs ys : List UInt8} {w : World} (h : Bs w A n c xs) (h' : Bs w A' n c' ys) (hm : n ≤ 1000000) :
    Calls Try.prog 11 #[.slice A n c, .slice A' n c'] w (RetBsE (xorL xs ys) 0 w) := by
  have h1 := h.le
  have h2 := h.cap
  have h3 := h'.le
  have h4 := h'.cap
  have hl := Lib.hid (h.len.trans h'.len.symm)
  go_enter Try.func11, Try.ntmps11
  go_wp2
  go_loopw [6, 7] (fun v i wr => ∃ (k cc : Nat) (D : Option Addr), k ≤ n ∧ i = .int .i64 k ∧ v = .slice D k cc ∧ Own w.heap.size wr D k cc ((xorL xs ys).take k) ∧ Ext w wr) (fun _ i _ => n - (intOf i).toNat)
  case atStart => exact ⟨0, 0, none, Nat.zero_le _, rfl, rfl, by simpa using Own.nil _ _, Ext.refl _⟩
  case round =>
    obtain ⟨k, cc, D, hk, rfl, rfl, ho, hE⟩ := hrel
    by_cases hlt : k < n
    · obtain ⟨b, off, rfl, hb, hc⟩ := h.pos (by omega)
      obtain ⟨b', off', rfl, hb', hc'⟩ := h'.pos (by omega)
      have g1 := hc k hlt
      have g2 := hc' k hlt
      have hu := Lib.hid (u8_xorL xs ys k)
      have hx : ((bt xs k ^^^ bt ys k : Nat) : Int) = ((UInt8.ofNat (bt xs k ^^^ bt ys k)).toNat : Int) := by
        have : bt xs k ^^^ bt ys k < 2 ^ 8 := Nat.xor_lt_two_pow (bt_lt xs k) (bt_lt ys k)
        rw [UInt8.toNat_ofNat']
        omega
      have hv := Lib.hid ((u8_xorL xs ys k).trans hx)
      have keep : ∀ w', Ext w w' → w'.cell? ⟨b, off + k, none⟩ = some (.int .u8 (bt xs k : Int)) ∧ w'.cell? ⟨b', off' + k, none⟩ = some (.int .u8 (bt ys k : Int)) ∧ Ext w w' :=
        fun w' e => ⟨(e.cell hb).trans g1, (e.cell hb').trans g2, e⟩
      have KEEP := Lib.hid keep
      have hlk : (0 : Int) ≤ (k : Int) := by omega
      have hlk2 : (k : Int) < (n : Int) := by omega
      clear hc hc' g1 g2 keep hx
      go_wp2
      go_region_held3 (fun w' => w'.cell? ⟨b, off + k, none⟩ = some (.int .u8 (bt xs k : Int)) ∧ w'.cell? ⟨b', off' + k, none⟩ = some (.int .u8 (bt ys k : Int)) ∧ Ext w w')
        (first
          | exact KEEP.out _ hE.drew
          | exact KEEP.out _ (hE.alloc _).drew
          | exact KEEP.out _ ((hE.alloc _).drew.trans' hbl))
        (first
          | (rw [if_pos (by rfl)]; refine wp_append_bs (B := w.heap.size) rfl rfl rfl (ho.alloc _).drew (Bs.one wr _ (UInt8.ofNat (bt xs k ^^^ bt ys k)) _ hv.out) (by omega) (by have := hE.size; simp; omega) ?_; intro D' cc' w2 ho2 hg2 hbl))
      go_wp2
      go_roundw
      case rel => exact ⟨k + 1, cc', D', by omega, by go_num, rfl, by rw [take_xor hl.out (by rw [h.len]; exact hlt)]; exact ho2, (hE.alloc _).drew.trans' hbl⟩
      case measure => simp [intOf]; omega
    · obtain rfl : k = n := by omega
      go_wp2
      go_ret2
      exact ⟨_, _, _, rfl, by have := ho.bs; rwa [List.take_of_length_le (by rw [xorL_len hl.out, h.len]; omega)] at this, hE⟩

theorem strL_toList (xs : List UInt8) : (strL xs).toList = xs := by
  rw [ByteArray.toList_eq]
  rfl

theorem refSame_calls {A A' : Option Addr} {n c n' c' : Nat} {xs ys : List UInt8} {w : World} (h : Bs w A n c xs) (h' : Bs w A' n' c' ys) :
    Calls Try.prog 13 #[.slice A n c, .slice A' n' c'] w fun e w' => e = .returned (.bool (decide (xs = ys))) ∧ w' = w := by
  have k1 := conv_bs h
  have k2 := conv_bs h'
  have hd : Hid (((strL xs).toList == (strL ys).toList) = decide (xs = ys)) := by
    unfold Hid
    rw [strL_toList, strL_toList]
    by_cases e : xs = ys <;> simp [e]
  go_enter Try.func13, Try.ntmps13
  go_wp2
  go_ret
  exact ⟨ret_bool hd.out, rfl⟩

/-- The number of bytes, the highest first, one by one. -/
def ofHighAt (xs : List UInt8) : Nat → Nat
  | 0 => 0
  | k + 1 => ofHighAt xs k * 256 + bt xs k
theorem ofHighAt_lt (xs : List UInt8) : ∀ k, ofHighAt xs k < 256 ^ k
  | 0 => by simp [ofHighAt]
  | k + 1 => by
    have := ofHighAt_lt xs k
    have := bt_lt xs k
    rw [ofHighAt, Nat.pow_succ]
    omega
theorem ofHighAt_eq {xs : List UInt8} : ∀ {k : Nat}, k ≤ xs.length → ofHighAt xs k = ofLowL (xs.take k).reverse
  | 0, _ => by simp [ofHighAt, ofLowL]
  | k + 1, h => by
    rw [ofHighAt, ofHighAt_eq (by omega), List.take_succ_eq_append_getElem (by omega), List.reverse_append]
    simp [ofLowL, bt, List.getD, show k < xs.length by omega]
    omega

set_option maxHeartbeats 400000 in
theorem refOfHigh_calls {A : Option Addr} {n c : Nat} {m : Nat} {xs : List UInt8} {w : World} (h : Bs w A n c xs) (hm8 : m ≤ 8) (hmn : m ≤ n) (hM : m = n ∨ m = 8) :
    Calls Try.prog 17 #[.slice A n c] w fun e w' => e = .returned (.int .u64 (ofLowL (xs.take m).reverse : Int)) ∧ w' = w := by
  have h1 := h.le
  have h2 := h.cap
  have hf : Hid (ofHighAt xs m = ofLowL (xs.take m).reverse) := ofHighAt_eq (by rw [h.len]; exact hmn)
  go_enter Try.func17, Try.ntmps17
  go_wp2
  go_loop [3, 4] (fun x i => ∃ k : Nat, k ≤ m ∧ i = .int .i64 k ∧ x = .int .u64 (ofHighAt xs k : Int)) (fun _ i => m - (intOf i).toNat)
  case atStart => exact ⟨0, Nat.zero_le _, rfl, rfl⟩
  case round =>
    obtain ⟨k, hk, rfl, rfl⟩ := hrel
    by_cases hlt : k < m
    · obtain ⟨b, off, rfl, hb, hc⟩ := h.pos (by omega)
      have g1 := hc k (by omega)
      have hbt := bt_lt xs k
      have hlt2 : ofHighAt xs k < 72057594037927936 := Nat.lt_of_lt_of_le (ofHighAt_lt xs k) (Nat.pow_le_pow_right (by omega) (show k ≤ 7 by omega))
      have hsucc : Hid ((ofHighAt xs (k + 1) : Int) = (ofHighAt xs k : Int) * 256 + (bt xs k : Int)) := by unfold Hid; rw [ofHighAt]; omega
      have t1 : (k : Int) < 8 := by omega
      have t2 : (k : Int) < (n : Int) := by omega
      clear hc hM
      go_wp2
      go_round
      case rel => exact ⟨k + 1, by omega, by go_num, congrArg (Value.int .u64) hsucc.out.symm⟩
      case measure => simp [intOf]; omega
    · obtain rfl : k = m := by omega
      rcases hM with rfl | rfl
      · go_wp2
        go_ret
        exact ⟨ret_int (by rw [hf.out]), rfl⟩
      · by_cases q : 8 < n
        · go_wp2
          go_ret
          exact ⟨ret_int (by rw [hf.out]), rfl⟩
        · obtain rfl : n = 8 := by omega
          go_wp2
          go_ret
          exact ⟨ret_int (by rw [hf.out]), rfl⟩

/-- The number of the bytes from k on below m, the lowest first. -/
theorem ofLowL_drop {xs : List UInt8} {k : Nat} (h : k < xs.length) : ofLowL (xs.drop k) = bt xs k + 256 * ofLowL (xs.drop (k + 1)) := by
  rw [List.drop_eq_getElem_cons h, ofLowL]
  simp [bt, List.getD, h]
def ofLowFrom (xs : List UInt8) (m k : Nat) : Nat := ofLowL ((xs.take m).drop k)
theorem ofLowFrom_step {xs : List UInt8} {m k : Nat} (hk : k < m) (hm : m ≤ xs.length) : ofLowFrom xs m k = bt xs k + 256 * ofLowFrom xs m (k + 1) := by
  unfold ofLowFrom
  rw [ofLowL_drop (by rw [List.length_take]; omega), bt_take hk]
theorem ofLowFrom_lt {xs : List UInt8} {m k : Nat} (hm : m ≤ xs.length) (h8 : m ≤ 8) (hk : 1 ≤ k) : ofLowFrom xs m k < 72057594037927936 := by
  unfold ofLowFrom
  refine Nat.lt_of_lt_of_le (ofLowL_lt _) (Nat.pow_le_pow_right (by omega) (show _ ≤ 7 from ?_))
  rw [List.length_drop, List.length_take]
  omega

set_option maxHeartbeats 400000 in
theorem refOfLow_calls {A : Option Addr} {n c : Nat} {m : Nat} {xs : List UInt8} {w : World} (h : Bs w A n c xs) (hm8 : m ≤ 8) (hmn : m ≤ n) (hM : (if (8 : Int) < (n : Int) then 8 else (n : Int)) = (m : Int)) :
    Calls Try.prog 15 #[.slice A n c] w fun e w' => e = .returned (.int .u64 (ofLowL (xs.take m) : Int)) ∧ w' = w := by
  have h1 := h.le
  have h2 := h.cap
  have hz : ofLowFrom xs m m = 0 := by unfold ofLowFrom; rw [List.drop_of_length_le (by rw [List.length_take]; omega)]; rfl
  have hz' := Lib.hid hz
  clear hz
  go_enter Try.func15, Try.ntmps15
  go_wp2
  clear hM
  go_loop [3, 4] (fun x i => ∃ k : Nat, k ≤ m ∧ i = .int .i64 ((k : Int) - 1) ∧ x = .int .u64 (ofLowFrom xs m k : Int)) (fun _ i => (intOf i + 1).toNat)
  case atStart => exact ⟨m, Nat.le_refl _, rfl, by rw [hz'.out]; rfl⟩
  case round =>
    obtain ⟨k, hk, rfl, rfl⟩ := hrel
    rcases Nat.eq_zero_or_pos k with rfl | hpos
    · go_wp2
      go_ret
      exact ⟨ret_int (by unfold ofLowFrom; rw [List.drop_zero]), rfl⟩
    · obtain ⟨j, rfl⟩ : ∃ j, k = j + 1 := ⟨k - 1, by omega⟩
      obtain ⟨b, off, rfl, hb, hc⟩ := h.pos (by omega)
      have g1 := hc j (by omega)
      have hbt := bt_lt xs j
      have hlt2 := ofLowFrom_lt (xs := xs) (m := m) (k := j + 1) (by rw [h.len]; omega) hm8 (by omega)
      have hst : Hid ((ofLowFrom xs m (j + 1) : Int) * 256 + (bt xs j : Int) = (ofLowFrom xs m j : Int)) := by
        unfold Hid
        rw [ofLowFrom_step (show j < m by omega) (by rw [h.len]; omega)]
        omega
      clear hc
      go_wp2
      exact ⟨⟨j, by omega, rfl, congrArg (Value.int .u64) hst.out⟩, by simp [intOf]⟩

theorem lowL_snoc (n k : Nat) : lowL n (k + 1) = lowL n k ++ [UInt8.ofNat (n / 256 ^ k)] := by
  unfold lowL
  rw [List.range_succ, List.map_append]
  rfl
theorem lowAt_u8 (n k : Nat) : (lowAt n k : Int) % 256 = ((UInt8.ofNat (n / 256 ^ k)).toNat : Int) := by
  rw [lowAt_byte, UInt8.toNat_ofNat']

theorem Own.one (w : World) (B : Nat) (hB : B ≤ w.heap.size) (x : UInt8) (v : Int) (hv : v = (x.toNat : Int)) : Own B (w.alloc (.cells #[.int .u8 v] 5)) (some ⟨w.heap.size, 0, none⟩) 1 1 [x] := by
  subst hv
  exact World.ownsRow_lit (e := 5) (size := 1) w #[.int .u8 (x.toNat : Int)] 1 hB (by unfold maxLen; omega) rfl

set_option maxHeartbeats 1000000 in
theorem refLow_calls {n m : Nat} {many : Int} {w : World} (hn : n < 18446744073709551616) (h1 : 0 ≤ many) (h2 : many ≤ 9223372036854775807) (hm8 : m ≤ 8) (hM : (if (8 : Int) < many then 8 else many) = (m : Int)) :
    Calls Try.prog 19 #[.int .u64 (n : Int), .int .i64 many] w (RetBs (lowL n m) w) := by
  have hz : lowAt n 0 = n := by simp [lowAt]
  have hM' : m = many ∨ (m = 8 ∧ 8 < many) := by
    by_cases q : (8 : Int) < many
    · rw [if_pos q] at hM; right; omega
    · rw [if_neg q] at hM; left; omega
  clear hM
  go_enter Try.func19, Try.ntmps19
  go_wp2
  go_loopw [0, 5, 6] (fun x v i wr => ∃ (k cc : Nat) (D : Option Addr), k ≤ m ∧ i = .int .i64 k ∧ x = .int .u64 (lowAt n k : Int) ∧ v = .slice D k cc ∧ Own w.heap.size wr D k cc (lowL n k) ∧ Ext w wr) (fun _ _ i _ => m - (intOf i).toNat)
  case atStart => exact ⟨0, 0, none, Nat.zero_le _, rfl, by rw [hz], rfl, Own.nil _ _, Ext.refl _⟩
  case round =>
    obtain ⟨k, cc, D, hk, rfl, rfl, rfl, ho, hE⟩ := hrel
    clear hz
    by_cases hlt : k < m
    · have t1 : (k : Int) < 8 := by omega
      have t2 : (k : Int) < many := by omega
      have hle := Nat.lt_of_le_of_lt (lowAt_le n k) hn
      have hsz := hE.size
      have hv := Lib.hid (lowAt_u8 n k)
      clear hM'
      go_wp2_with (at_builtin; refine wpList_append_bs rfl (B := w.heap.size) rfl rfl rfl (ho.alloc _) (Bs.one wr _ (UInt8.ofNat (n / 256 ^ k)) _ hv.out) (by omega) (by simp; omega) ?_; intro D' cc' w2 ho2 hg2 hbl)
      go_roundw
      case rel => exact ⟨k + 1, cc', D', by omega, by go_num, congrArg (Value.int .u64) (lowAt_int n k), rfl, by rw [lowL_snoc]; exact ho2, (hE.alloc _).trans' hbl⟩
      case measure => simp [intOf]; omega
    · obtain rfl : k = m := by omega
      rcases hM' with hM' | ⟨rfl, hM'⟩
      · subst hM'
        go_wp2
        go_ret
        exact ⟨_, _, _, rfl, ho.bs, hE⟩
      · go_wp2
        go_ret
        exact ⟨_, _, _, rfl, ho.bs, hE⟩

set_option maxHeartbeats 1000000 in
theorem refHigh_calls {n m : Nat} {many : Int} {w : World} (hn : n < 18446744073709551616) (h1 : 0 ≤ many) (h2 : many ≤ 9223372036854775807) (hm8 : m ≤ 8) (hM : (if (8 : Int) < many then 8 else many) = (m : Int)) :
    Calls Try.prog 21 #[.int .u64 (n : Int), .int .i64 many] w (RetBs (lowL n m).reverse w) := by
  have hz : lowAt n 0 = n := by simp [lowAt]
  have hM' : m = many ∨ (m = 8 ∧ 8 < many) := by
    by_cases q : (8 : Int) < many
    · rw [if_pos q] at hM; right; omega
    · rw [if_neg q] at hM; left; omega
  clear hM
  go_enter Try.func21, Try.ntmps21
  go_wp2
  go_loopw [0, 5, 6] (fun x v i wr => ∃ (k cc : Nat) (D : Option Addr), k ≤ m ∧ i = .int .i64 k ∧ x = .int .u64 (lowAt n k : Int) ∧ v = .slice D k cc ∧ Bs wr D k cc (lowL n k).reverse ∧ Ext w wr) (fun _ _ i _ => m - (intOf i).toNat)
  case atStart => exact ⟨0, 0, none, Nat.zero_le _, rfl, by rw [hz], rfl, Bs.nil _, Ext.refl _⟩
  case round =>
    obtain ⟨k, cc, D, hk, rfl, rfl, rfl, ho, hE⟩ := hrel
    clear hz
    by_cases hlt : k < m
    · have t1 : (k : Int) < 8 := by omega
      have t2 : (k : Int) < many := by omega
      have hle := Nat.lt_of_le_of_lt (lowAt_le n k) hn
      have hsz := hE.size
      have hv := Lib.hid (lowAt_u8 n k)
      clear hM'
      go_wp2_with (at_builtin; refine wpList_append_bs rfl (B := w.heap.size) rfl rfl rfl (Own.one wr w.heap.size hsz (UInt8.ofNat (n / 256 ^ k)) _ hv.out) (ho.ext ((Ext.refl _).alloc _)) (by omega) (by simp; omega) ?_; intro D' cc' w2 ho2 hg2 hbl)
      go_roundw
      case rel => exact ⟨k + 1, cc', D', by omega, by go_num, congrArg (Value.int .u64) (lowAt_int n k), by rw [Nat.add_comm], by rw [lowL_snoc, List.reverse_append, Nat.add_comm k 1]; exact ho2.bs, (hE.alloc _).trans' hbl⟩
      case measure => simp [intOf]; omega
    · obtain rfl : k = m := by omega
      rcases hM' with hM' | ⟨rfl, hM'⟩
      · subst hM'
        go_wp2
        go_ret
        exact ⟨_, _, _, rfl, ho, hE⟩
      · go_wp2
        go_ret
        exact ⟨_, _, _, rfl, ho, hE⟩
end Go.Proofs.Ytgmolahjmciegaa
