import Derived.Test.YteaoacinhdjkeaaPkF
import Derived.Test.YteaoacinhdjkeaaDkS
import Derived.Test.YteaoacinhdjkeaaOt
section
/-
  A literal of one byte. No conditions.
-/
namespace Go.Proofs.Yteaoacinhdjkeaa
open Go.ChangeShapes Go.WideShapes Go.ChangeAt Go.RowKit Go.Deep

theorem Bs.lit8 (w : World) (t : TypeId) (xs : List UInt8) (cs : Array Value) (hcs : cs = (xs.map fun x => Value.int .u8 (x.toNat : Int)).toArray) (n : Nat) (hn : xs.length = n) (hm : n ≤ 1000000) :
    Bs (w.alloc (.cells cs t)) (some ⟨w.heap.size, 0, none⟩) n n xs := by
  subst hcs
  have hr := World.rowIs_alloc w (xs.map fun x => Value.int .u8 (x.toNat : Int)).toArray t (fun i => .int .u8 (bt xs i : Int)) (fun i hi => by
    have hi' : i < xs.length := by simpa using hi
    simp [bt, List.getD, hi'])
  refine ⟨hn, Nat.le_refl _, by unfold maxLen; omega, fun _ => ⟨w.heap.size, 0, rfl, by simp, fun j hj => ?_⟩⟩
  rw [Nat.zero_add]
  exact hr.cell (by simp; omega)
theorem Bs.one8 (w : World) (t : TypeId) (x : UInt8) (v : Int) (hv : v = (x.toNat : Int)) : Bs (w.alloc (.cells #[.int .u8 v] t)) (some ⟨w.heap.size, 0, none⟩) 1 1 [x] :=
  Bs.lit8 w t [x] _ (by rw [hv]; rfl) 1 rfl (by omega)
end Go.Proofs.Yteaoacinhdjkeaa
end

section
/-
  The document's High.
-/
namespace Go.Proofs.Yteaoacinhdjkeaa
open Go.ChangeShapes Go.WideShapes Go.ChangeAt Go.RowKit Go.Deep

theorem lowL_snoc (n k : Nat) : lowL n (k + 1) = lowL n k ++ [UInt8.ofNat (n / 256 ^ k)] := by
  unfold lowL
  rw [List.range_succ, List.map_append]
  rfl
theorem lowAt_u8 (n k : Nat) : (lowAt n k : Int) % 256 = ((UInt8.ofNat (n / 256 ^ k)).toNat : Int) := by
  rw [lowAt_byte, UInt8.toNat_ofNat']

theorem Own.one8 (w : World) (B : Nat) (hB : B ≤ w.heap.size) (x : UInt8) (v : Int) (hv : v = (x.toNat : Int)) : Own B (w.alloc (.cells #[.int .u8 v] 5)) (some ⟨w.heap.size, 0, none⟩) 1 1 [x] := by
  subst hv
  exact World.ownsRow_lit (e := 5) (size := 1) w #[.int .u8 (x.toNat : Int)] 1 hB (by unfold maxLen; omega) rfl

set_option maxHeartbeats 1000000 in
theorem refHigh_calls {n m : Nat} {many : Int} {w : World} (hn : n < 18446744073709551616) (h1 : 0 ≤ many) (h2 : many ≤ 9223372036854775807) (hm8 : m ≤ 8) (hM : (if (8 : Int) < many then 8 else many) = (m : Int)) :
    Calls Try.prog 67 #[.int .u64 (n : Int), .int .i64 many] w (RetBs (lowL n m).reverse w) := by
  have hz : lowAt n 0 = n := by simp [lowAt]
  have hM' : m = many ∨ (m = 8 ∧ 8 < many) := by
    by_cases q : (8 : Int) < many
    · rw [if_pos q] at hM; right; omega
    · rw [if_neg q] at hM; left; omega
  clear hM
  go_enter Try.func67, Try.ntmps67
  go_wp2
  go_loopw [0, 5, 6] (fun x v i wr => ∃ (k cc : Nat) (D : Option Addr), k ≤ m ∧ i = .int .i64 k ∧ x = .int .u64 (lowAt n k : Int) ∧ v = .slice D k cc ∧ Bs wr D k cc (lowL n k).reverse ∧ Ext w wr) (fun _ _ i _ => m - (intOf i).toNat)
  case atStart => exact ⟨0, 0, none, Nat.zero_le _, rfl, by rw [hz], rfl, Bs.nil _, Ext.refl _⟩
  case round =>
    obtain ⟨k, cc, D, hk, rfl, rfl, rfl, ho, hE⟩ := hrel
    clear hz
    by_cases hlt : k < m
    · have t1 : (k : Int) < 8 := by omega
      have t2 : (k : Int) < many := by omega
      have hle := Nat.lt_of_le_of_lt (lowAt_le n k) hn
      have hsz := hE.size
      have hv := Lib.hid (lowAt_u8 n k)
      clear hM'
      go_wp2_with (at_builtin; refine wpList_append_bs rfl (B := w.heap.size) rfl rfl rfl (Own.one8 wr w.heap.size hsz (UInt8.ofNat (n / 256 ^ k)) _ hv.out) (ho.ext ((Ext.refl _).alloc _)) (by omega) (by simp; omega) ?_; intro D' cc' w2 ho2 hg2 hbl)
      go_roundw
      case rel => exact ⟨k + 1, cc', D', by omega, by go_num, congrArg (Value.int .u64) (lowAt_int n k), by rw [Nat.add_comm], by rw [lowL_snoc, List.reverse_append, Nat.add_comm k 1]; exact ho2.bs, (hE.alloc _).trans' hbl⟩
      case measure => simp [intOf]; omega
    · obtain rfl : k = m := by omega
      rcases hM' with hM' | ⟨rfl, hM'⟩
      · subst hM'
        go_wp2
        go_ret
        exact ⟨_, _, _, rfl, ho, hE⟩
      · go_wp2
        go_ret
        exact ⟨_, _, _, rfl, ho, hE⟩
end Go.Proofs.Yteaoacinhdjkeaa
end

section
/-
  octets.High and the document's: what they hand back is a row of their own.
-/
namespace Go.Proofs.Yteaoacinhdjkeaa
open Go.ChangeShapes Go.WideShapes Go.ChangeAt Go.RowKit Go.Deep

theorem Own.mono {B B' : Nat} {w : World} {A : Option Addr} {n c : Nat} {xs : List UInt8} (h : Own B w A n c xs) (hB : B' ≤ B) : Own B' w A n c xs := by
  refine ⟨h.1, ?_⟩
  rcases h.2 with h | ⟨g, cap, cur, hv, hb, r⟩
  · exact .inl h
  · exact .inr ⟨g, cap, cur, hv, Nat.le_trans hB hb, r⟩
theorem Own.of_row {B b n : Nat} {w : World} {f : Nat → Value} {xs : List UInt8} (hl : xs.length = n) (hn : n ≤ 281474976710656) (hB : B ≤ b) (h : w.rowIs b 5 n f) (hf : ∀ j, j < n → f j = .int .u8 (bt xs j : Int)) : Own B w (some ⟨b, 0, none⟩) n n xs := by
  obtain ⟨c, h1, h2, h3⟩ := h
  refine ⟨by rw [List.length_map, hl, Nat.mul_one], .inr ⟨b, n, c, rfl, hB, h1, Nat.le_refl _, by unfold maxLen; omega, by rw [h2, Nat.mul_one], ?_⟩⟩
  rw [Nat.mul_one, List.take_of_length_le (by simp [h2])]
  apply List.ext_getElem?
  intro j
  by_cases hj : j < n
  · rw [Array.getElem?_toList, h3 j hj, hf j hj, u8v_bt (by omega)]
  · rw [List.getElem?_eq_none (by simp [h2]; omega), List.getElem?_eq_none (by simp [hl]; omega)]
set_option maxHeartbeats 400000 in
theorem reversedO_calls {A : Option Addr} {n c : Nat} {xs : List UInt8} {w : World} (h : Bs w A n c xs) (hm : n ≤ 281474976710656) :
    Calls Try.prog 74 #[.slice A n c] w (RetOwn xs.reverse w) := by
  have h1 := h.le
  have h2 := h.cap
  have hmk := make8 n hm
  go_enter Try.func74, Try.ntmps74
  go_wp2
  clear hmk
  go_loopw [10] (fun i wr => ∃ k : Nat, k ≤ n ∧ i = .int .i64 k ∧ FillBack w wr n k (fun j => bt xs (n - 1 - j))) (fun i _ => n - (intOf i).toNat)
  case atStart => exact ⟨0, Nat.zero_le _, rfl, (Ext.refl w).alloc _, (World.rowIs_made w _ n _).congr fun i hi => by rw [if_neg (by omega)]⟩
  case round =>
    obtain ⟨k, hk, rfl, hf⟩ := hrel
    by_cases hlt : k < n
    · obtain ⟨b, off, rfl, hb, hc⟩ := h.pos (by omega)
      have g1 := (hf.1.cell (p := ⟨b, off + k, none⟩) hb).trans (hc k hlt)
      have g3 := hf.2.cell (i := n - 1 - k) (by omega)
      rw [if_neg (by omega)] at g3
      have g4 := hf.2.frozen (n - 1 - k)
      clear hc
      go_wp2
      go_roundw
      case rel =>
        exact ⟨k + 1, by omega, by go_num, hf.step (by omega) (by rw [show n - 1 - (n - 1 - k) = k by omega])⟩
      case measure => simp [intOf]; omega
    · obtain rfl : k = n := by omega
      go_wp2
      go_ret
      refine ⟨_, _, _, rfl, Own.of_row (by rw [List.length_reverse, h.len]) (by omega) (Nat.le_refl _) hf.2 fun j hj => ?_, hf.1⟩
      rw [if_pos (by omega), bt_reverse (by rw [h.len]; exact hj), h.len]

set_option maxHeartbeats 400000 in
theorem highO_calls {n m : Nat} {many : Int} {w : World} (hn : n < 18446744073709551616) (h1 : 0 ≤ many) (h2 : many ≤ 9223372036854775807) (hm8 : m ≤ 8) (hM : (if (8 : Int) < many then 8 else many) = (m : Int)) :
    Calls Try.prog 66 #[.int .u64 (n : Int), .int .i64 many] w (RetOwn (lowL n m).reverse w) := by
  have hM' := Lib.hid hM
  clear hM
  go_enter Try.func66, Try.ntmps66
  go_wp2_with fail
  refine (low_calls hn h1 h2 hm8 hM'.out).mono ?_
  rintro e w1 ⟨A, k, c, rfl, hb, he⟩
  go_wp2_with fail
  have hk : k ≤ 8 := by have := hb.len; rw [lowL_len] at this; omega
  refine (reversedO_calls hb (by omega)).mono ?_
  rintro e w2 ⟨A, k, c, rfl, hb2, he2⟩
  go_wp2_with fail
  go_ret
  exact ⟨_, _, _, rfl, hb2.mono he.size, he.trans he2⟩
set_option maxHeartbeats 1000000 in
theorem refHighO_calls {n m : Nat} {many : Int} {w : World} (hn : n < 18446744073709551616) (h1 : 0 ≤ many) (h2 : many ≤ 9223372036854775807) (hm8 : m ≤ 8) (hM : (if (8 : Int) < many then 8 else many) = (m : Int)) :
    Calls Try.prog 67 #[.int .u64 (n : Int), .int .i64 many] w (RetOwn (lowL n m).reverse w) := by
  have hz : lowAt n 0 = n := by simp [lowAt]
  have hM' : m = many ∨ (m = 8 ∧ 8 < many) := by
    by_cases q : (8 : Int) < many
    · rw [if_pos q] at hM; right; omega
    · rw [if_neg q] at hM; left; omega
  clear hM
  go_enter Try.func67, Try.ntmps67
  go_wp2
  go_loopw [0, 5, 6] (fun x v i wr => ∃ (k cc : Nat) (D : Option Addr), k ≤ m ∧ i = .int .i64 k ∧ x = .int .u64 (lowAt n k : Int) ∧ v = .slice D k cc ∧ Own w.heap.size wr D k cc (lowL n k).reverse ∧ Ext w wr) (fun _ _ i _ => m - (intOf i).toNat)
  case atStart => exact ⟨0, 0, none, Nat.zero_le _, rfl, by rw [hz], rfl, Own.nil _ _, Ext.refl _⟩
  case round =>
    obtain ⟨k, cc, D, hk, rfl, rfl, rfl, ho, hE⟩ := hrel
    clear hz
    by_cases hlt : k < m
    · have t1 : (k : Int) < 8 := by omega
      have t2 : (k : Int) < many := by omega
      have hle := Nat.lt_of_le_of_lt (lowAt_le n k) hn
      have hsz := hE.size
      have hv := Lib.hid (lowAt_u8 n k)
      clear hM'
      go_wp2_with (at_builtin; refine wpList_append_bs rfl (B := w.heap.size) rfl rfl rfl (Own.one8 wr w.heap.size hsz (UInt8.ofNat (n / 256 ^ k)) _ hv.out) (ho.bs.ext ((Ext.refl _).alloc _)) (by omega) (by simp; omega) ?_; intro D' cc' w2 ho2 hg2 hbl)
      go_roundw
      case rel => exact ⟨k + 1, cc', D', by omega, by go_num, congrArg (Value.int .u64) (lowAt_int n k), by rw [Nat.add_comm], by rw [lowL_snoc, List.reverse_append, Nat.add_comm k 1]; exact ho2, (hE.alloc _).trans' hbl⟩
      case measure => simp [intOf]; omega
    · obtain rfl : k = m := by omega
      rcases hM' with hM' | ⟨rfl, hM'⟩
      · subst hM'
        go_wp2
        go_ret
        exact ⟨_, _, _, rfl, ho, hE⟩
      · go_wp2
        go_ret
        exact ⟨_, _, _, rfl, ho, hE⟩
end Go.Proofs.Yteaoacinhdjkeaa
end

section
/-
  disk.Pending.
-/
namespace Go.Proofs.Yteaoacinhdjkeaa
open Go.ChangeShapes Go.WideShapes Go.ChangeAt Go.RowKit Go.Deep Go.Maps
set_option maxRecDepth 100000

/-- The sectors below k that are not sure, rising. -/
def Ds.pend (d : Ds) (k : Nat) : List Nat := (List.range k).filter fun i => (d.N i).isSome
theorem pend_succ (d : Ds) (k : Nat) : d.pend (k + 1) = d.pend k ++ (if (d.N k).isSome then [k] else []) := by
  unfold Ds.pend
  rw [List.range_succ, List.filter_append]
  congr 1
  simp only [List.filter_cons, List.filter_nil]
theorem pend_len (d : Ds) (k : Nat) : (d.pend k).length ≤ k := by
  have := List.length_filter_le (fun i => (d.N i).isSome) (List.range k)
  rw [List.length_range] at this
  exact this
def iC (L : List Nat) : List (List Value) := L.map fun (n : Nat) => [Value.int .i64 (n : Int)]
theorem infoI21 : (Try.prog.info? 3).map (fun i => (i.zero, i.size, i.bytes)) = some (some (.int .i64 0), 1, 8) := by kernel_rfl
set_option maxHeartbeats 4000000 in
theorem dpending_calls {w : World} {g r mb : Nat} {d : Ds} (h : DK w g r mb d) :
    Calls Try.prog 49 #[.pointer (some ⟨g, 0, none⟩)] w fun e w' => ∃ A c, e = .returned (.slice A (d.pend d.S.length).length c) ∧ OwnC w.heap.size w' 3 1 A (d.pend d.S.length).length c (iC (d.pend d.S.length)) ∧ Ext w w' := by
  have hm := h.ok.most
  have hal := sector_alloc
  have C0 : Hid (∀ s, Ext w s → s.cell? ⟨g, 0, none⟩ = some (.slice (some ⟨r, 0, none⟩) d.S.length d.S.length) ∧ s.cell? ⟨g, 1, none⟩ = some (.map (some mb))) := fun s e => ⟨(h.ext e).cb.cell rfl, (h.ext e).cb.cell rfl⟩
  have LK : Hid (∀ s (n : Nat), Ext w s → n < d.S.length → (Instr.lookup 84 (.map (some mb)) (.int .i64 (n : Int)) true).run Try.prog s = .ok (.tuple #[.agg (cellsOf ((d.N n).getD (List.replicate 64 0))).toArray, .bool (d.N n).isSome]) s) := fun s n e q2 => (h.ext e).look q2
  have OW : Hid (OwnC w.heap.size w 3 1 none 0 0 (iC (d.pend 0))) := Lib.hid (OwnC.nil _ _ _ _)
  have c0 := (C0.out w (Ext.refl w)).1
  have NL := Lib.hid h.ok.nl
  clear h
  go_enter Try.func49, Try.ntmps49
  go_wp2_with fail
  go_loopw [3, 12] (fun sv iv wr => ∃ (k c : Nat) (A : Option Addr), iv = .int .i64 (k : Int) ∧ k ≤ d.S.length ∧ sv = .slice A (d.pend k).length c ∧ OwnC w.heap.size wr 3 1 A (d.pend k).length c (iC (d.pend k)) ∧ Ext w wr) (fun _ iv _ => ((d.S.length : Int) - intOf iv).toNat)
  case atStart => exact ⟨0, 0, none, rfl, Nat.zero_le _, rfl, OW.out, Ext.refl w⟩
  case round =>
    obtain ⟨k, c, A, rfl, hk, rfl, ow, xr⟩ := hrel
    clear OW c0
    by_cases hlt : k < d.S.length
    · have u1 : decide ((k : Int) < (d.S.length : Int)) = true := decide_eq_true (by omega)
      have ad : IntKind.i64.wrap ((k : Int) + 1) = (k : Int) + 1 := IntWalk.i64_in _ (by omega)
      have hme : Hid (((d.S.length : Int) - ((k : Int) + 1)).toNat < ((d.S.length : Int) - (k : Int)).toNat) := by unfold Hid; omega
      have LK1 := LK.out wr k xr hlt
      have c1 := (C0.out wr xr).2
      obtain ⟨xs, hxs⟩ : ∃ q, q = (d.N k).getD (List.replicate 64 0) := ⟨_, rfl⟩
      have L_xs : xs.length = 64 := by
        rw [hxs]
        cases q : d.N k
        · rfl
        · exact (NL.out _ _ q).1
      have PS := Lib.hid (pend_succ d k)
      obtain ⟨is, his⟩ : ∃ q, q = (d.N k).isSome := ⟨_, rfl⟩
      rw [← hxs, ← his] at LK1
      rw [← his] at PS
      clear hxs his
      have S_xs : (cellsOf xs).toArray.size = 64 := by simp [cellsOf_len, L_xs]
      have O_xs := one_cells (one_mem xs)
      have S_Z : zS64.toArray.size = 64 := by rw [List.size_toArray, zS64_len]
      generalize zS64 = ZL at *
      have K1 : Hid (OwnC w.heap.size ((wr.alloc (.cells ZL.toArray 45)).setRow wr.heap.size (cellsOf xs).toArray) 3 1 A (d.pend k).length c (iC (d.pend k)) ∧ Ext w ((wr.alloc (.cells ZL.toArray 45)).setRow wr.heap.size (cellsOf xs).toArray)) := ⟨ow.ext (Ext.newRow _ _ _), xr.trans (Ext.newRow _ _ _)⟩
      have pl := pend_len d k
      clear ow xr
      go_upto_region 6 with (first
        | (refine wpList_lookup_mp rfl _ _ rfl rfl rfl LK1 ?_; go_frame)
        | (refine wpList_store_row rfl 45 _ _ rfl wr.heap.size (cellsOf xs).toArray rfl rfl 45 ZL.toArray (heap_alloc_new _ _) (by rw [S_xs]; rfl) (by rw [S_xs, S_Z]) O_xs ?_; simp only [Act.put]))
      refine wp_gen (fun W => OwnC w.heap.size W 3 1 A (d.pend k).length c (iC (d.pend k)) ∧ Ext w W) K1.out ?_
      generalize wr.heap.size = r9 at *
      clear K1 LK1 c1 wr
      rintro w2 ⟨ow, x2⟩
      cases is with
      | false =>
        have F := Lib.hid (show d.pend (k + 1) = d.pend k from by rw [PS.out]; simp)
        replace ow := Lib.hid ow
        replace x2 := Lib.hid x2
        go_wp2_with fail
        go_round
        case rel => exact ⟨k + 1, c, A, rfl, hlt, by rw [F.out], by rw [F.out]; exact ow.out, x2.out⟩
        case measure => exact hme.out
      | true =>
        have F := Lib.hid (show d.pend (k + 1) = d.pend k ++ [k] from by rw [PS.out]; simp)
        have hzs : (Value.int .i64 0).cells.size = 1 := rfl
        have n1 : Hid ((w2.alloc (.cells #[.int .i64 (k : Int)] 3)).heap[w2.heap.size]? = some (.cells [Value.int .i64 (k : Int)].toArray 3 (0, 0))) := heap_alloc_new _ _
        have o2 := Lib.hid (ow.ext ((Ext.refl w2).alloc (.cells #[.int .i64 (k : Int)] 3)))
        have X2 := Lib.hid (x2.alloc (.cells #[.int .i64 (k : Int)] 3))
        have z2 : Hid (w.heap.size ≤ (w2.alloc (.cells #[.int .i64 (k : Int)] 3)).heap.size) := X2.out.size
        have C_1 : [Value.int .i64 (k : Int)].length = 1 := rfl
        have one1 : ∀ u ∈ [Value.int .i64 (k : Int)], u.oneCell' = true := fun u hu => by rw [List.mem_singleton.1 hu]; rfl
        clear ow x2 PS
        go_wp2_with (at_builtin; (with_reducible refine wpList_append_c rfl Try.underlying73 infoI21 hzs (by omega) (by omega) (x := .tmp 25) (y := .tmp 27) rfl rfl rfl o2.out n1.out C_1 one1 (by omega) z2.out ?_); intro A3 c3 w3 o3 g3 b3; replace o3 := Lib.hid o3; replace g3 := Lib.hid g3; replace b3 := Lib.hid b3; go_frame)
        go_round
        case rel => exact ⟨k + 1, c3, A3, rfl, hlt, by rw [F.out, List.length_append]; rfl, by rw [F.out, List.length_append, iC, List.map_append]; exact o3.out, Below.trans X2.out b3.out⟩
        case measure => exact hme.out
    · obtain rfl : k = d.S.length := by omega
      have u1 : decide ((d.S.length : Int) < (d.S.length : Int)) = false := decide_eq_false (by omega)
      replace ow := Lib.hid ow
      replace xr := Lib.hid xr
      go_wp2_with fail
      go_ret
      exact ⟨A, c, rfl, ow.out, xr.out⟩
end Go.Proofs.Yteaoacinhdjkeaa
end

section
/-
  The document's disk: its state; New, burn, Fuse.
-/
namespace Go.Proofs.Yteaoacinhdjkeaa
open Go.ChangeShapes Go.WideShapes Go.ChangeAt Go.RowKit Go.Deep Go.Maps
set_option maxRecDepth 100000

def Ds.lit (d : Ds) : Int := if d.hf then d.f else -1
def Ds.isC (d : Ds) : List Value := (List.range d.S.length).map fun i => Value.bool (d.N i).isSome
theorem isC_len (d : Ds) : d.isC.length = d.S.length := by simp [Ds.isC]
theorem isC_at {d : Ds} {i : Nat} (h : i < d.S.length) : d.isC[i]? = some (.bool (d.N i).isSome) := by simp [Ds.isC, h]
def Ds.rcells (d : Ds) (r n i : Nat) : List Value := [.slice (some ⟨r, 0, none⟩) d.S.length d.S.length, .slice (some ⟨n, 0, none⟩) d.S.length d.S.length, .slice (some ⟨i, 0, none⟩) d.S.length d.S.length, .int .i64 d.lit, .bool d.dd]
/-- The document's disk at block g, with its three rows. -/
structure RD (w : World) (g r n i : Nat) (d : Ds) (X : List (List UInt8)) : Prop where
  cb : Cb w g 89 (d.rcells r n i)
  sr : Cb w r 48 (d.S.map cellsOf).flatten
  nr : Cb w n 48 (X.map cellsOf).flatten
  ir : Cb w i 4 d.isC
  ne : r ≠ n
  ok : d.ok
  xl : X.length = d.S.length
  xs : ∀ x ∈ X, x.length = 64
  xn : ∀ j s, d.N j = some s → X.getD j [] = s
section
variable {w w' : World} {g r n i : Nat} {d : Ds} {X : List (List UInt8)}
theorem RD.stay (h : RD w g r n i d X) (hg : w'.heap[g]? = w.heap[g]?) (hr : w'.heap[r]? = w.heap[r]?) (hn : w'.heap[n]? = w.heap[n]?) (hi : w'.heap[i]? = w.heap[i]?) : RD w' g r n i d X := ⟨hg.trans h.cb, hr.trans h.sr, hn.trans h.nr, hi.trans h.ir, h.ne, h.ok, h.xl, h.xs, h.xn⟩
theorem RD.ext (h : RD w g r n i d X) (x : Ext w w') : RD w' g r n i d X := h.stay (x.block _ h.cb.lt) (x.block _ h.sr.lt) (x.block _ h.nr.lt) (x.block _ h.ir.lt)
theorem RD.gr (h : RD w g r n i d X) : g ≠ r := cb_differ h.cb h.sr (by decide)
theorem RD.gn (h : RD w g r n i d X) : g ≠ n := cb_differ h.cb h.nr (by decide)
theorem RD.gi (h : RD w g r n i d X) : g ≠ i := cb_differ h.cb h.ir (by decide)
theorem RD.ri (h : RD w g r n i d X) : r ≠ i := cb_differ h.sr h.ir (by decide)
theorem RD.ni (h : RD w g r n i d X) : n ≠ i := cb_differ h.nr h.ir (by decide)
/-- The disk and the document's are apart. -/
theorem DK.apart {g' r' b : Nat} {d' : Ds} (k : DK w g' r' b d') (h : RD w g r n i d X) : (g ≠ g' ∧ g ≠ r' ∧ g ≠ b) ∧ (r ≠ g' ∧ r ≠ r' ∧ r ≠ b) ∧ (n ≠ g' ∧ n ≠ r' ∧ n ≠ b) ∧ (i ≠ g' ∧ i ≠ r' ∧ i ≠ b) := by
  obtain ⟨es, c, q⟩ := k.mp.obj
  have nb : ∀ {j : Nat} {t : TypeId} {C : List Value}, Cb w j t C → j ≠ b := fun {j t C} z e => by
    subst e
    unfold Cb at z
    rw [q] at z
    cases z
  exact ⟨⟨cb_differ h.cb k.cb (by decide), cb_differ h.cb k.row (by decide), nb h.cb⟩, ⟨cb_differ h.sr k.cb (by decide), cb_differ h.sr k.row (by decide), nb h.sr⟩, ⟨cb_differ h.nr k.cb (by decide), cb_differ h.nr k.row (by decide), nb h.nr⟩, ⟨cb_differ h.ir k.cb (by decide), cb_differ h.ir k.row (by decide), nb h.ir⟩⟩
/-- A cell of its own block turns. -/
theorem RD.cell {d' : Ds} (h : RD w g r n i d X) {o : Nat} {v : Value} (hc : (d.rcells r n i).set o v = d'.rcells r n i) (hS : d'.S = d.S) (hN : d'.N = d.N) (ok : d'.ok) : RD (w.setCell ⟨g, o, none⟩ v) g r n i d' X := by
  have e : d'.isC = d.isC := by unfold Ds.isC; rw [hS, hN]
  refine ⟨by rw [← hc]; exact h.cb.setCell, ?_, ?_, ?_, h.ne, ok, by rw [hS]; exact h.xl, h.xs, by rw [hN]; exact h.xn⟩
  · rw [hS]; exact (Below.heap_setCell _ _ _ _ (fun q => h.gr q.symm)).trans h.sr
  · exact (Below.heap_setCell _ _ _ _ (fun q => h.gn q.symm)).trans h.nr
  · rw [e]; exact (Below.heap_setCell _ _ _ _ (fun q => h.gi q.symm)).trans h.ir
end
theorem infoRS : (Try.prog.info? 48).map (fun i => (i.zero, i.size, i.bytes)) = some (some (.agg zS64.toArray), 64, (Try.prog.info? 48).elim 0 (·.bytes)) := by kernel_rfl
theorem bytesRS : (Try.prog.info? 48).elim 0 (·.bytes) ≤ 1000000 := by decide +kernel
theorem makeRS (n : Nat) (hn : n ≤ 1000) (w : World) :
    (Instr.makeSlice 87 (.int .i64 (n : Int)) (.int .i64 (n : Int))).run Try.prog w = .ok (.slice (some ⟨w.heap.size, 0, none⟩) n n) (w.alloc (.cells (List.replicate n zS64).flatten.toArray 48)) := by
  obtain ⟨i, hi, h0, h1, h2⟩ := info_parts infoRS
  have hb := bytesRS
  have hle : n * i.bytes ≤ 1000 * 1000000 := Nat.mul_le_mul hn (by rw [h2]; exact hb)
  have h4 : (i.bytes : Int) * (n : Int) ≤ 281474976710656 := by
    have h3 : ((n * i.bytes : Nat) : Int) ≤ 1000000000 := by omega
    rw [Int.natCast_mul, Int.mul_comm] at h3
    omega
  have := run_make (P := Try.prog) w 87 48 i (.agg zS64.toArray) Try.underlying87 hi h0 .i64 .i64 (n : Int) (n : Int) (by omega) (by omega) (by first | exact h4 | omega) (by omega)
  rw [this]
  simp only [Int.toNat_natCast]
  rw [h1, show (Value.agg zS64.toArray).cells = zS64.toArray from rfl, madeCells_flat64 zS64_len (by omega)]
theorem infoB21 : (Try.prog.info? 4).map (fun i => (i.zero, i.size, i.bytes)) = some (some (.bool false), 1, 1) := by kernel_rfl
theorem makeB21 (n : Nat) (hn : n ≤ 1000) (w : World) :
    (Instr.makeSlice 76 (.int .i64 (n : Int)) (.int .i64 (n : Int))).run Try.prog w = .ok (.slice (some ⟨w.heap.size, 0, none⟩) n n) (w.alloc (.cells (List.replicate n (Value.bool false)).toArray 4)) := by
  rw [run_make_row' _ _ _ 1 Try.underlying76 infoB21 rfl .i64 .i64 n (by omega) (by omega) w]
  congr 3
  apply Array.ext'
  rw [toList_madeCells_one]
theorem rnew_bad {w : World} {z : Int} (h : z < 1 ∨ 64 < z) : Calls Try.prog 13 #[.int .i64 z] w fun e w' => e = .returned (.tuple #[.pointer none, .int .i64 1]) ∧ Ext w w' := by
  by_cases h1 : z < 1
  · have u1 : decide (z < 1) = true := decide_eq_true h1
    clear h
    go_enter Try.func13, Try.ntmps13
    go_wp2_with fail
    go_ret2
    exact ⟨rfl, Ext.refl w⟩
  · have u1 : decide (z < 1) = false := decide_eq_false h1
    have h2 : 64 < z := h.resolve_left h1
    have u2 : decide (64 < z) = true := decide_eq_true h2
    clear h
    go_enter Try.func13, Try.ntmps13
    go_wp2_with fail
    go_ret2
    exact ⟨rfl, Ext.refl w⟩
end Go.Proofs.Yteaoacinhdjkeaa
end
