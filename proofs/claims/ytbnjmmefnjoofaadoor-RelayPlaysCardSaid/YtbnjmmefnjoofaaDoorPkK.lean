import Derived.Test.YtbnjmmefnjoofaaDoorPkM
import Derived.Test.YtbnjmmefnjoofaaDoorMac
import Derived.Test.YtbnjmmefnjoofaaDoorOwn
import Derived.Test.YtbnjmmefnjoofaaDoorPkO
import Derived.Test.YtbnjmmefnjoofaaDoorCbBs
import Derived.Test.YtbnjmmefnjoofaaDoorBase
import Derived.Maps.RangeWalk
import Derived.Maps.Ext
import Derived.Test.YtbnjmmefnjoofaaDoorKeyEq
import Derived.Laws.ResultCell
section
/-
  Layer 16 as plain functions: tags, stamps, checks, bytes.
-/
namespace Go.Proofs.YtbnjmmefnjoofaaDoor
open Go.ChangeShapes Go.WideShapes Go.ChangeAt Go.RowKit Go.Deep
set_option maxRecDepth 100000

/-- The highest bytes first. -/
def hiB (n m : Nat) : List UInt8 := (lowL n m).reverse
theorem hiB_len (n m : Nat) : (hiB n m).length = m := by rw [hiB, List.length_reverse, lowL_len]
theorem hiB_one (n : Nat) : hiB n 1 = [UInt8.ofNat n] := by simp [hiB, lowL]
/-- What the tag covers. -/
def toldL (f t tm : Nat) (cm : List UInt8) : List UInt8 := ((hiB f 1 ++ hiB t 1) ++ hiB tm 4) ++ cm
theorem toldL_len {f t tm : Nat} {cm : List UInt8} (h : cm.length = 32) : (toldL f t tm cm).length = 38 := by simp [toldL, hiB_len, h]
/-- The key of an epoch. -/
def ekL (root : List UInt8) (ep : Nat) : List UInt8 := macL root (hiB ep 4)
def tagL16 (root : List UInt8) (ep f t tm : Nat) (cm : List UInt8) : List UInt8 := macL (ekL root ep) (toldL f t tm cm)
theorem tagL16_len (root : List UInt8) (ep f t tm : Nat) (cm : List UInt8) : (tagL16 root ep f t tm cm).length = 32 := macL_len _ _
/-- A stamp's data. -/
structure Sm where
  ep : Int
  f : Int
  t : Int
  tm : Int
  cm : List UInt8
  tg : List UInt8
def Sm.C (s : Sm) : List Value := stC s.ep s.f s.t s.tm s.cm s.tg
def Sm.ok (s : Sm) : Prop := s.cm.length = 32 ∧ s.tg.length = 32
def Sm.valid (s : Sm) : Bool := okS s.ep s.f s.t s.tm
theorem Sm.C_len {s : Sm} (h : s.ok) : s.C.length = 68 := stC_len h.1 h.2 _ _ _ _
theorem Sm.one (s : Sm) : ∀ v ∈ s.C, v.oneCell' = true := one_st
def zSm : Sm := ⟨0, 0, 0, 0, List.replicate 32 0, List.replicate 32 0⟩
theorem zSm_ok : zSm.ok := ⟨rfl, rfl⟩
theorem okS_in {ep f t tm : Int} (h : okS ep f t tm = true) : (0 ≤ ep ∧ ep ≤ 1000000) ∧ (0 ≤ f ∧ f ≤ 7) ∧ (0 ≤ t ∧ t ≤ 7) ∧ (0 ≤ tm ∧ tm ≤ 1000000) := by
  unfold okS upB at h
  simp only [Bool.and_eq_true, decide_eq_true_eq] at h
  omega
/-- A stamp that may be, by numbers that are not below nought. -/
theorem Sm.nat {s : Sm} (h : s.valid = true) : ∃ (ep f t tm : Nat), s = ⟨ep, f, t, tm, s.cm, s.tg⟩ ∧ ep ≤ 1000000 ∧ f ≤ 7 ∧ t ≤ 7 ∧ tm ≤ 1000000 := by
  obtain ⟨h1, h2, h3, h4⟩ := okS_in h
  refine ⟨s.ep.toNat, s.f.toNat, s.t.toNat, s.tm.toNat, ?_, by omega, by omega, by omega, by omega⟩
  obtain ⟨ep, f, t, tm, cm, tg⟩ := s
  dsimp only at h1 h2 h3 h4 ⊢
  rw [show ((ep.toNat : Nat) : Int) = ep by omega, show ((f.toNat : Nat) : Int) = f by omega, show ((t.toNat : Nat) : Int) = t by omega, show ((tm.toNat : Nat) : Int) = tm by omega]
/-- The stamp of an envelope at a time. -/
def mkOk (f t now : Int) : Bool := (upB now 1000000 && upB f 7) && upB t 7
def mkS (root : List UInt8) (ticks : Nat) (f t : Int) (cm : List UInt8) (now : Int) : Sm :=
  if mkOk f t now then ⟨((now.toNat / ticks : Nat) : Int), f, t, now, cm, tagL16 root (now.toNat / ticks) f.toNat t.toNat now.toNat cm⟩ else zSm
def mkE (f t now : Int) : Int := if mkOk f t now then 0 else 1
theorem mkS_ok (root : List UInt8) (ticks : Nat) (f t : Int) {cm : List UInt8} (now : Int) (h : cm.length = 32) : (mkS root ticks f t cm now).ok := by
  unfold mkS
  split
  · exact ⟨h, tagL16_len _ _ _ _ _ _⟩
  · exact zSm_ok
/-- Is it that relay's? -/
def chkE (root : List UInt8) (ticks : Nat) (s : Sm) (now : Int) : Int :=
  if s.valid && upB now 1000000 then
    (if s.ep.toNat = s.tm.toNat / ticks ∧ tagL16 root s.ep.toNat s.f.toNat s.t.toNat s.tm.toNat s.cm = s.tg then (if now < s.tm ∨ s.tm + 50 < now then 5 else 0) else 4) else 1
def bytesS (s : Sm) : List UInt8 := if s.valid then (hiB s.ep.toNat 4 ++ toldL s.f.toNat s.t.toNat s.tm.toNat s.cm) ++ s.tg else []
def bytesE (s : Sm) : Int := if s.valid then 0 else 1
theorem bytesS_len {s : Sm} (ok : s.ok) (h : s.valid = true) : (bytesS s).length = 74 := by
  unfold bytesS
  rw [if_pos h]
  simp [hiB_len, toldL_len ok.1, ok.2]
/-- The stamp of bytes, whether it may be or not. -/
def rdS (b : List UInt8) : Sm := ⟨(numN b 4 : Nat), (numN (b.drop 4) 1 : Nat), (numN (b.drop 5) 1 : Nat), (numN (b.drop 6) 4 : Nat), (b.drop 10).take 32, (b.drop 42).take 32⟩
def readE16 (b : List UInt8) : Int := if b.length < 74 then 3 else if 74 < b.length then 2 else if (rdS b).valid then 0 else 2
def readS16 (b : List UInt8) : Sm := if readE16 b = 0 then rdS b else zSm
theorem rdS_ok {b : List UInt8} (h : 74 ≤ b.length) : (rdS b).ok := ⟨by simp [rdS]; omega, by simp [rdS]; omega⟩
theorem readS_ok (b : List UInt8) : (readS16 b).ok := by
  unfold readS16
  split
  · rename_i h
    refine rdS_ok ?_
    unfold readE16 at h
    split at h
    · cases h
    · omega
  · exact zSm_ok
theorem cat_eq {a b c d : List UInt8} (h : a.length = c.length) : a ++ b = c ++ d ↔ a = c ∧ b = d := by
  constructor
  · intro q
    exact List.append_inj q h
  · rintro ⟨rfl, rfl⟩; rfl
/-- Bytes of 74 are the bytes of the stamp that they are read as. -/
theorem bytes_rdS {b : List UInt8} (h : b.length = 74) (hv : (rdS b).valid = true) : bytesS (rdS b) = b := by
  unfold bytesS
  rw [if_pos hv]
  show (hiB (numN b 4 : Int).toNat 4 ++ toldL (numN (b.drop 4) 1 : Int).toNat (numN (b.drop 5) 1 : Int).toNat (numN (b.drop 6) 4 : Int).toNat ((b.drop 10).take 32)) ++ (b.drop 42).take 32 = b
  simp only [Int.toNat_natCast]
  unfold toldL hiB
  rw [high_numN (by omega), high_numN (by rw [List.length_drop]; omega), high_numN (by rw [List.length_drop]; omega), high_numN (by rw [List.length_drop]; omega)]
  have e0 : b = b.take 4 ++ b.drop 4 := (List.take_append_drop 4 b).symm
  have e1 : b.drop 4 = (b.drop 4).take 1 ++ b.drop 5 := by rw [show b.drop 5 = (b.drop 4).drop 1 by rw [List.drop_drop]]; exact (List.take_append_drop 1 _).symm
  have e2 : b.drop 5 = (b.drop 5).take 1 ++ b.drop 6 := by rw [show b.drop 6 = (b.drop 5).drop 1 by rw [List.drop_drop]]; exact (List.take_append_drop 1 _).symm
  have e3 : b.drop 6 = (b.drop 6).take 4 ++ b.drop 10 := by rw [show b.drop 10 = (b.drop 6).drop 4 by rw [List.drop_drop]]; exact (List.take_append_drop 4 _).symm
  have e4 : b.drop 10 = (b.drop 10).take 32 ++ b.drop 42 := by rw [show b.drop 42 = (b.drop 10).drop 32 by rw [List.drop_drop]]; exact (List.take_append_drop 32 _).symm
  have e5 : (b.drop 42).take 32 = b.drop 42 := List.take_of_length_le (by rw [List.length_drop]; omega)
  rw [e5]
  conv => rhs; rw [e0, e1, e2, e3, e4]
  simp only [List.append_assoc]
/-- The bytes of a stamp are read as it. -/
theorem rdS_bytes {s : Sm} (ok : s.ok) (hv : s.valid = true) : rdS (bytesS s) = s := by
  obtain ⟨ep, f, t, tm, hs, h1, h2, h3, h4⟩ := Sm.nat hv
  obtain ⟨lc, lg⟩ := ok
  generalize s.cm = cm at *
  generalize s.tg = tg at *
  subst hs
  have e : bytesS ⟨ep, f, t, tm, cm, tg⟩ = hiB ep 4 ++ (hiB f 1 ++ (hiB t 1 ++ (hiB tm 4 ++ (cm ++ tg)))) := by
    unfold bytesS
    rw [if_pos hv]
    show (hiB (ep : Int).toNat 4 ++ toldL (f : Int).toNat (t : Int).toNat (tm : Int).toNat cm) ++ tg = _
    simp only [Int.toNat_natCast, toldL, List.append_assoc]
  rw [e]
  have n0 : numN (hiB ep 4 ++ (hiB f 1 ++ (hiB t 1 ++ (hiB tm 4 ++ (cm ++ tg))))) 4 = ep := numN_high (by omega)
  have d4 : (hiB ep 4 ++ (hiB f 1 ++ (hiB t 1 ++ (hiB tm 4 ++ (cm ++ tg))))).drop 4 = hiB f 1 ++ (hiB t 1 ++ (hiB tm 4 ++ (cm ++ tg))) := List.drop_left' (hiB_len _ _)
  have d5 : (hiB ep 4 ++ (hiB f 1 ++ (hiB t 1 ++ (hiB tm 4 ++ (cm ++ tg))))).drop 5 = hiB t 1 ++ (hiB tm 4 ++ (cm ++ tg)) := by rw [show (5 : Nat) = 4 + 1 from rfl, ← List.drop_drop, d4]; exact List.drop_left' (hiB_len _ _)
  have d6 : (hiB ep 4 ++ (hiB f 1 ++ (hiB t 1 ++ (hiB tm 4 ++ (cm ++ tg))))).drop 6 = hiB tm 4 ++ (cm ++ tg) := by rw [show (6 : Nat) = 5 + 1 from rfl, ← List.drop_drop, d5]; exact List.drop_left' (hiB_len _ _)
  have d10 : (hiB ep 4 ++ (hiB f 1 ++ (hiB t 1 ++ (hiB tm 4 ++ (cm ++ tg))))).drop 10 = cm ++ tg := by rw [show (10 : Nat) = 6 + 4 from rfl, ← List.drop_drop, d6]; exact List.drop_left' (hiB_len _ _)
  have d42 : (hiB ep 4 ++ (hiB f 1 ++ (hiB t 1 ++ (hiB tm 4 ++ (cm ++ tg))))).drop 42 = tg := by rw [show (42 : Nat) = 10 + 32 from rfl, ← List.drop_drop, d10]; exact List.drop_left' lc
  unfold rdS
  rw [n0, d4, d5, d6, d10, d42]
  have n1 : numN (hiB f 1 ++ (hiB t 1 ++ (hiB tm 4 ++ (cm ++ tg)))) 1 = f := numN_high (by omega)
  have n2 : numN (hiB t 1 ++ (hiB tm 4 ++ (cm ++ tg))) 1 = t := numN_high (by omega)
  have n3 : numN (hiB tm 4 ++ (cm ++ tg)) 4 = tm := numN_high (by omega)
  rw [n1, n2, n3, List.take_left' lc, List.take_of_length_le (by omega)]
theorem read_bytes {s : Sm} (ok : s.ok) (hv : s.valid = true) : readE16 (bytesS s) = 0 ∧ readS16 (bytesS s) = s := by
  have hl := bytesS_len ok hv
  have he : readE16 (bytesS s) = 0 := by
    unfold readE16
    rw [if_neg (by omega), if_neg (by omega), rdS_bytes ok hv, if_pos hv]
  exact ⟨he, by unfold readS16; rw [if_pos he, rdS_bytes ok hv]⟩
theorem bytes_read {b : List UInt8} (h : readE16 b = 0) : bytesE (readS16 b) = 0 ∧ bytesS (readS16 b) = b ∧ (readS16 b).valid = true := by
  have hr : readS16 b = rdS b := by unfold readS16; rw [if_pos h]
  unfold readE16 at h
  split at h
  · cases h
  split at h
  · cases h
  split at h
  · rename_i h1 h2 h3
    rw [hr]
    exact ⟨by unfold bytesE; rw [if_pos h3], bytes_rdS (by omega) h3, h3⟩
  · cases h
end Go.Proofs.YtbnjmmefnjoofaaDoor
end

section
/-
  Bytes that lie in memory of the call's own. No conditions.
-/
namespace Go.Proofs.YtbnjmmefnjoofaaDoor
open Go.ChangeShapes Go.WideShapes Go.ChangeAt Go.RowKit Go.Deep

/-- The call hands back bytes that lie in memory of its own. -/
def RetOwn (xs : List UInt8) (w : World) (e : Ending) (w' : World) : Prop := ∃ A n c, e = .returned (.slice A n c) ∧ Own w.heap.size w' A n c xs ∧ Ext w w'
end Go.Proofs.YtbnjmmefnjoofaaDoor
end

section
/-
  octets.High and the document's: what they hand back is a row of their own.
-/
namespace Go.Proofs.YtbnjmmefnjoofaaDoor
open Go.ChangeShapes Go.WideShapes Go.ChangeAt Go.RowKit Go.Deep

theorem Own.mono {B B' : Nat} {w : World} {A : Option Addr} {n c : Nat} {xs : List UInt8} (h : Own B w A n c xs) (hB : B' ≤ B) : Own B' w A n c xs := by
  refine ⟨h.1, ?_⟩
  rcases h.2 with h | ⟨g, cap, cur, hv, hb, r⟩
  · exact .inl h
  · exact .inr ⟨g, cap, cur, hv, Nat.le_trans hB hb, r⟩
theorem Own.of_row {B b n : Nat} {w : World} {f : Nat → Value} {xs : List UInt8} (hl : xs.length = n) (hn : n ≤ 281474976710656) (hB : B ≤ b) (h : w.rowIs b 5 n f) (hf : ∀ j, j < n → f j = .int .u8 (bt xs j : Int)) : Own B w (some ⟨b, 0, none⟩) n n xs := by
  obtain ⟨c, h1, h2, h3⟩ := h
  refine ⟨by rw [List.length_map, hl, Nat.mul_one], .inr ⟨b, n, c, rfl, hB, h1, Nat.le_refl _, by unfold maxLen; omega, by rw [h2, Nat.mul_one], ?_⟩⟩
  rw [Nat.mul_one, List.take_of_length_le (by simp [h2])]
  apply List.ext_getElem?
  intro j
  by_cases hj : j < n
  · rw [Array.getElem?_toList, h3 j hj, hf j hj, u8v_bt (by omega)]
  · rw [List.getElem?_eq_none (by simp [h2]; omega), List.getElem?_eq_none (by simp [hl]; omega)]
set_option maxHeartbeats 400000 in
theorem reversedO_calls {A : Option Addr} {n c : Nat} {xs : List UInt8} {w : World} (h : Bs w A n c xs) (hm : n ≤ 281474976710656) :
    Calls Tryd.prog 65 #[.slice A n c] w (RetOwn xs.reverse w) := by
  have h1 := h.le
  have h2 := h.cap
  have hmk := make8 n hm
  go_enter Tryd.func65, Tryd.ntmps65
  go_wp2
  clear hmk
  go_loopw [10] (fun i wr => ∃ k : Nat, k ≤ n ∧ i = .int .i64 k ∧ FillBack w wr n k (fun j => bt xs (n - 1 - j))) (fun i _ => n - (intOf i).toNat)
  case atStart => exact ⟨0, Nat.zero_le _, rfl, (Ext.refl w).alloc _, (World.rowIs_made w _ n _).congr fun i hi => by rw [if_neg (by omega)]⟩
  case round =>
    obtain ⟨k, hk, rfl, hf⟩ := hrel
    by_cases hlt : k < n
    · obtain ⟨b, off, rfl, hb, hc⟩ := h.pos (by omega)
      have g1 := (hf.1.cell (p := ⟨b, off + k, none⟩) hb).trans (hc k hlt)
      have g3 := hf.2.cell (i := n - 1 - k) (by omega)
      rw [if_neg (by omega)] at g3
      have g4 := hf.2.frozen (n - 1 - k)
      clear hc
      go_wp2
      go_roundw
      case rel =>
        exact ⟨k + 1, by omega, by go_num, hf.step (by omega) (by rw [show n - 1 - (n - 1 - k) = k by omega])⟩
      case measure => simp [intOf]; omega
    · obtain rfl : k = n := by omega
      go_wp2
      go_ret
      refine ⟨_, _, _, rfl, Own.of_row (by rw [List.length_reverse, h.len]) (by omega) (Nat.le_refl _) hf.2 fun j hj => ?_, hf.1⟩
      rw [if_pos (by omega), bt_reverse (by rw [h.len]; exact hj), h.len]

set_option maxHeartbeats 400000 in
theorem highO_calls {n m : Nat} {many : Int} {w : World} (hn : n < 18446744073709551616) (h1 : 0 ≤ many) (h2 : many ≤ 9223372036854775807) (hm8 : m ≤ 8) (hM : (if (8 : Int) < many then 8 else many) = (m : Int)) :
    Calls Tryd.prog 41 #[.int .u64 (n : Int), .int .i64 many] w (RetOwn (lowL n m).reverse w) := by
  have hM' := Lib.hid hM
  clear hM
  go_enter Tryd.func41, Tryd.ntmps41
  go_wp2_with fail
  refine (low_calls hn h1 h2 hm8 hM'.out).mono ?_
  rintro e w1 ⟨A, k, c, rfl, hb, he⟩
  go_wp2_with fail
  have hk : k ≤ 8 := by have := hb.len; rw [lowL_len] at this; omega
  refine (reversedO_calls hb (by omega)).mono ?_
  rintro e w2 ⟨A, k, c, rfl, hb2, he2⟩
  go_wp2_with fail
  go_ret
  exact ⟨_, _, _, rfl, hb2.mono he.size, he.trans he2⟩
set_option maxHeartbeats 1000000 in
theorem refHighO_calls {n m : Nat} {many : Int} {w : World} (hn : n < 18446744073709551616) (h1 : 0 ≤ many) (h2 : many ≤ 9223372036854775807) (hm8 : m ≤ 8) (hM : (if (8 : Int) < many then 8 else many) = (m : Int)) :
    Calls Tryd.prog 80 #[.int .u64 (n : Int), .int .i64 many] w (RetOwn (lowL n m).reverse w) := by
  have hz : lowAt n 0 = n := by simp [lowAt]
  have hM' : m = many ∨ (m = 8 ∧ 8 < many) := by
    by_cases q : (8 : Int) < many
    · rw [if_pos q] at hM; right; omega
    · rw [if_neg q] at hM; left; omega
  clear hM
  go_enter Tryd.func80, Tryd.ntmps80
  go_wp2
  go_loopw [0, 5, 6] (fun x v i wr => ∃ (k cc : Nat) (D : Option Addr), k ≤ m ∧ i = .int .i64 k ∧ x = .int .u64 (lowAt n k : Int) ∧ v = .slice D k cc ∧ Own w.heap.size wr D k cc (lowL n k).reverse ∧ Ext w wr) (fun _ _ i _ => m - (intOf i).toNat)
  case atStart => exact ⟨0, 0, none, Nat.zero_le _, rfl, by rw [hz], rfl, Own.nil _ _, Ext.refl _⟩
  case round =>
    obtain ⟨k, cc, D, hk, rfl, rfl, rfl, ho, hE⟩ := hrel
    clear hz
    by_cases hlt : k < m
    · have t1 : (k : Int) < 8 := by omega
      have t2 : (k : Int) < many := by omega
      have hle := Nat.lt_of_le_of_lt (lowAt_le n k) hn
      have hsz := hE.size
      have hv := Lib.hid (lowAt_u8 n k)
      clear hM'
      go_wp2_with (at_builtin; refine wpList_append_bs rfl (B := w.heap.size) rfl rfl rfl (Own.one8 wr w.heap.size hsz (UInt8.ofNat (n / 256 ^ k)) _ hv.out) (ho.bs.ext ((Ext.refl _).alloc _)) (by omega) (by simp; omega) ?_; intro D' cc' w2 ho2 hg2 hbl)
      go_roundw
      case rel => exact ⟨k + 1, cc', D', by omega, by go_num, congrArg (Value.int .u64) (lowAt_int n k), by rw [Nat.add_comm], by rw [lowL_snoc, List.reverse_append, Nat.add_comm k 1]; exact ho2, (hE.alloc _).trans' hbl⟩
      case measure => simp [intOf]; omega
    · obtain rfl : k = m := by omega
      rcases hM' with hM' | ⟨rfl, hM'⟩
      · subst hM'
        go_wp2
        go_ret
        exact ⟨_, _, _, rfl, ho, hE⟩
      · go_wp2
        go_ret
        exact ⟨_, _, _, rfl, ho, hE⟩
end Go.Proofs.YtbnjmmefnjoofaaDoor
end

section
/-
  stamp.told, stamp.Bytes.
-/
namespace Go.Proofs.YtbnjmmefnjoofaaDoor
open Go.ChangeShapes Go.WideShapes Go.ChangeAt Go.RowKit Go.Deep
set_option maxRecDepth 100000

theorem st_parts {ep f t tm : Int} {cm tg : List UInt8} (lc : cm.length = 32) : stC ep f t tm cm tg = [.int .i64 ep, .int .i64 f, .int .i64 t, .int .i64 tm] ++ (cellsOf cm ++ cellsOf tg) ∧ stC ep f t tm cm tg = ([.int .i64 ep, .int .i64 f, .int .i64 t, .int .i64 tm] ++ cellsOf cm) ++ (cellsOf tg ++ []) ∧ ([Value.int .i64 ep, .int .i64 f, .int .i64 t, .int .i64 tm] ++ cellsOf cm).length = 36 := ⟨rfl, by simp [stC], by simp [cellsOf_len, lc]⟩
set_option maxHeartbeats 4000000 in
theorem told_calls {w : World} {ep : Int} {f t tm : Nat} {cm tg : List UInt8} (lc : cm.length = 32) (hf : f ≤ 7) (ht : t ≤ 7) (htm : tm ≤ 1000000) : Calls Tryd.prog 52 #[.agg (stC ep f t tm cm tg).toArray] w (RetOwn (toldL f t tm cm) w) := by
  have H1 : Hid (∀ (W : World), Calls Tryd.prog 41 #[.int .u64 (f : Int), .int .i64 1] W (RetOwn (hiB f 1) W)) := fun W => highO_calls (by omega) (by omega) (by omega) (by omega) rfl
  have H2 : Hid (∀ (W : World), Calls Tryd.prog 41 #[.int .u64 (t : Int), .int .i64 1] W (RetOwn (hiB t 1) W)) := fun W => highO_calls (by omega) (by omega) (by omega) (by omega) rfl
  have H4 : Hid (∀ (W : World), Calls Tryd.prog 41 #[.int .u64 (tm : Int), .int .i64 4] W (RetOwn (hiB tm 4) W)) := fun W => highO_calls (by omega) (by omega) (by omega) (by omega) rfl
  have u1 : IntKind.u64.wrap (f : Int) = (f : Int) := IntWalk.u64_in _ (by omega)
  have u2 : IntKind.u64.wrap (t : Int) = (t : Int) := IntWalk.u64_in _ (by omega)
  have u3 : IntKind.u64.wrap (tm : Int) = (tm : Int) := IntWalk.u64_in _ (by omega)
  have c1 : Hid ((stC ep f t tm cm tg)[1]? = some (.int .i64 (f : Int))) := rfl
  have c2 : Hid ((stC ep f t tm cm tg)[2]? = some (.int .i64 (t : Int))) := rfl
  have c3 : Hid ((stC ep f t tm cm tg)[3]? = some (.int .i64 (tm : Int))) := rfl
  have cc := Lib.hid (fun _ : Unit => (st_parts (ep := ep) (f := f) (t := t) (tm := tm) (tg := tg) lc).1)
  have hR : Hid (((hiB f 1 ++ hiB t 1) ++ hiB tm 4) ++ cm = toldL f t tm cm) := rfl
  have l1 := hiB_len f 1
  have l2 := hiB_len t 1
  have l4 := hiB_len tm 4
  generalize toldL f t tm cm = R at *
  generalize stC ep f t tm cm tg = st at *
  generalize hiB f 1 = b1 at *
  generalize hiB t 1 = b2 at *
  generalize hiB tm 4 = b4 at *
  clear hf ht htm
  obtain ⟨r, hr⟩ : ∃ r, r = w.heap.size := ⟨_, rfl⟩
  have B0 : Hid (Cb (w.alloc (Obj.cells st.toArray 67)) r 67 st ∧ Ext w (w.alloc (Obj.cells st.toArray 67))) := by rw [hr]; exact ⟨Cb.new _ _ _, (Ext.refl w).alloc _⟩
  go_enter Tryd.func52, Tryd.ntmps52
  go_upto_region 1 with fail
  refine wp_gen (fun W => Cb W r 67 st ∧ Ext w W) B0.out ?_
  rw [← hr]
  have wr : w.heap.size ≤ r := Nat.le_of_eq hr.symm
  clear B0
  replace hr := Lib.hid hr
  rintro w0 ⟨k0, x0⟩
  have g0 := k0.cell c1.out
  have z0 : r + 1 ≤ w0.heap.size := k0.lt
  replace k0 := Lib.hid k0
  replace x0 := Lib.hid x0
  go_wp2_with fail
  refine (H1.out _).mono ?_
  rintro e w1 ⟨A1, n1, m1, rfl, o1, e1⟩
  obtain rfl : n1 = 1 := by rw [← o1.len, l1]
  replace o1 := Lib.hid (o1.mono z0)
  have k1 := Lib.hid (k0.out.ext e1)
  have x1 := Lib.hid (x0.out.trans e1)
  have g1 := k1.out.cell c2.out
  clear g0 k0 x0 e1 H1 z0
  go_wp2_with fail
  refine (H2.out _).mono ?_
  rintro e w2 ⟨A2, n2, m2, rfl, o2, e2⟩
  obtain rfl : n2 = 1 := by rw [← o2.len, l2]
  replace o1 := Lib.hid (o1.out.ext e2)
  replace o2 := Lib.hid o2.bs
  have k2 := Lib.hid (k1.out.ext e2)
  have x2 := Lib.hid (x1.out.trans e2)
  have z2 : r + 1 ≤ w2.heap.size := k2.out.lt
  clear g1 k1 x1 e2 H2
  go_upto_region 3 with (at_builtin; (with_reducible refine wpList_append_bs rfl (B := r + 1) (s := .tmp 8) (x := .tmp 12) rfl rfl rfl o1.out o2.out (by omega) z2 ?_); intro A3 m3 w3 o3 g3 d3; replace o3 := Lib.hid o3; clear g3; replace d3 := Lib.hid d3; go_frame)
  refine wp_gen (fun W => Own (r + 1) W A3 (1 + 1) m3 (b1 ++ b2) ∧ Cb W r 67 st ∧ Ext w W) ⟨o3.out, k2.out.kept d3.out (by omega), Below.trans x2.out (d3.out.mono (by omega))⟩ ?_
  clear o3 d3 o1 o2 k2 x2 z2
  rintro w4 ⟨o3, k3, x3⟩
  have g3 := k3.cell c3.out
  replace o3 := Lib.hid o3
  replace k3 := Lib.hid k3
  replace x3 := Lib.hid x3
  go_wp2_with fail
  refine (H4.out _).mono ?_
  rintro e w5 ⟨A5, n5, m5, rfl, o5, e5⟩
  obtain rfl : n5 = 4 := by rw [← o5.len, l4]
  have o4 := Lib.hid (o3.out.ext e5)
  replace o5 := Lib.hid o5.bs
  have k5 := Lib.hid (k3.out.ext e5)
  have x5 := Lib.hid (x3.out.trans e5)
  have z5 : r + 1 ≤ w5.heap.size := k5.out.lt
  clear g3 o3 k3 x3 e5 H4
  go_upto_region 4 with (at_builtin; (with_reducible refine wpList_append_bs rfl (B := r + 1) (s := .tmp 14) (x := .tmp 18) rfl rfl rfl o4.out o5.out (by omega) z5 ?_); intro A6 m6 w6 o6 g6 d6; replace o6 := Lib.hid o6; clear g6; replace d6 := Lib.hid d6; go_frame)
  refine wp_gen (fun W => Own (r + 1) W A6 (1 + 1 + 4) m6 ((b1 ++ b2) ++ b4) ∧ Cb W r 67 st ∧ Ext w W) ⟨o6.out, k5.out.kept d6.out (by omega), Below.trans x5.out (d6.out.mono (by omega))⟩ ?_
  clear o6 d6 o4 o5 k5 x5 z5
  rintro w7 ⟨o7, k7, x7⟩
  have b7 := Lib.hid (k7.bs (cc.out ()) rfl lc (by omega))
  have z7 : r + 1 ≤ w7.heap.size := k7.lt
  replace o7 := Lib.hid o7
  replace x7 := Lib.hid x7
  clear k7
  go_wp2_with (at_builtin; (with_reducible refine wpList_append_bs rfl (B := r + 1) (s := .tmp 20) (x := .tmp 22) rfl rfl rfl o7.out b7.out (by omega) z7 ?_); intro A8 m8 w8 o8 g8 d8; replace o8 := Lib.hid o8; clear g8; replace d8 := Lib.hid d8; go_frame)
  go_ret
  exact ⟨_, _, _, rfl, by rw [← hR.out]; exact o8.out.mono (by omega), Below.trans x7.out (d8.out.mono (by omega))⟩
end Go.Proofs.YtbnjmmefnjoofaaDoor
end

section
/-
  Maps that hold just the entries of a list, each element read as itself; a range over one. No conditions.
-/
namespace Go.Proofs.YtbnjmmefnjoofaaDoor
open Go.ChangeShapes Go.WideShapes Go.ChangeAt Go.RowKit Go.Deep Go.Maps
open Go.WideElems (Fit rd rg pl rd_key rd_val rg_of)

/-- An element is read as itself. -/
def rawE (v : Value) : Option (DataW Value × List MemPlace) := some (.held v, [])
/-- The datum holds just the entries of the list. -/
structure Vw (P : Program) (k : TypeId) (D : DataW Value) (E : List (Value × Value)) : Prop where
  apart : E.Pairwise (fun p q => p.1 ≠ q.1)
  size : Maps.size D = E.length
  into : ∀ p ∈ E, ∃ kl, keyOf P k p.1 = some kl ∧ Maps.has D kl = true ∧ ∀ z, D.atKey kl z = .held p.2
  back : ∀ kl, Maps.has D kl = true → ∃ p ∈ E, keyOf P k p.1 = some kl
section
variable {P : Program} {k t e : TypeId} {w w' : World} {b : Nat} {E : List (Value × Value)} {D : DataW Value}
theorem Vw.hit (h : Vw P k D E) (K : Keyed P k) {key : Value} {kl : Lit} (hk : keyOf P k key = some kl) (hh : Maps.has D kl = true) : ∃ v, (key, v) ∈ E ∧ ∀ z, D.atKey kl z = .held v := by
  obtain ⟨p, hp, q⟩ := h.back kl hh
  obtain ⟨kl', h1, _, h3⟩ := h.into p hp
  obtain rfl : kl' = kl := by rw [q] at h1; exact (Option.some.inj h1).symm
  obtain rfl : p.1 = key := K.inj q hk
  exact ⟨p.2, hp, h3⟩
theorem Vw.miss (h : Vw P k D E) {key : Value} {kl : Lit} (hk : keyOf P k key = some kl) (hh : Maps.has D kl = false) : ∀ p ∈ E, p.1 ≠ key := fun p hp e => by
  obtain ⟨kl', h1, h2, _⟩ := h.into p hp
  rw [e, hk] at h1
  obtain rfl := Option.some.inj h1
  rw [hh] at h2; cases h2
theorem Vw.has_false (h : Vw P k D E) (K : Keyed P k) {key : Value} {kl : Lit} (hk : keyOf P k key = some kl) (hm : ∀ p ∈ E, p.1 ≠ key) : Maps.has D kl = false := by
  cases hh : Maps.has D kl
  · rfl
  · obtain ⟨p, hp, q⟩ := h.back kl hh
    exact absurd (K.inj q hk) (hm p hp)
theorem apart_one {E : List (Value × Value)} (h : E.Pairwise (fun p q => p.1 ≠ q.1)) {key v v' : Value} (h1 : (key, v) ∈ E) (h2 : (key, v') ∈ E) : v = v' := by
  induction E with
  | nil => cases h1
  | cons x r ih =>
    obtain ⟨a, b⟩ := List.pairwise_cons.1 h
    rcases List.mem_cons.1 h1 with q1 | q1 <;> rcases List.mem_cons.1 h2 with q2 | q2
    · rw [← q1] at q2; exact (congrArg Prod.snd q2).symm
    · exact ((a _ q2) (by rw [← q1])).elim
    · exact ((a _ q1) (by rw [← q2])).elim
    · exact ih b q1 q2
theorem Vw.nil (P : Program) (k : TypeId) : Vw P k (.map []) [] := ⟨List.Pairwise.nil, rfl, (fun p hp => by cases hp), (fun kl h => by cases h)⟩
/-- A new key. -/
theorem Vw.add (h : Vw P k D E) (K : Keyed P k) (T : Tidy D) {key v : Value} {kl : Lit} (hk : keyOf P k key = some kl) (hm : ∀ p ∈ E, p.1 ≠ key) : Vw P k (D.put kl (.held v)) (E ++ [(key, v)]) := by
  have hf := h.has_false K hk hm
  have IK := K.key hk
  refine ⟨?_, ?_, fun p hp => ?_, fun kl' hh => ?_⟩
  · rw [List.pairwise_append]
    exact ⟨h.apart, List.pairwise_singleton _ _, fun a ha b hb => by rw [List.mem_singleton.1 hb]; exact hm a ha⟩
  · rw [size_put T, hf, h.size, List.length_append]; rfl
  · rcases List.mem_append.1 hp with q | q
    · obtain ⟨kl', h1, h2, h3⟩ := h.into p q
      have hne : kl' ≠ kl := fun e => by rw [e, hf] at h2; cases h2
      exact ⟨kl', h1, by rw [has_put_other hne]; exact h2, fun z => by rw [atKey_put_other hne]; exact h3 z⟩
    · rw [List.mem_singleton.1 q]
      exact ⟨kl, hk, has_put_same T.isMap IK _, fun z => atKey_put_same T.isMap IK _ z⟩
  · by_cases e : kl' = kl
    · subst e
      exact ⟨(key, v), by simp, hk⟩
    · rw [has_put_other e] at hh
      obtain ⟨p, hp, q⟩ := h.back kl' hh
      exact ⟨p, List.mem_append_left _ hp, q⟩
/-- A key is struck. -/
theorem Vw.del (h : Vw P k D E) (K : Keyed P k) (T : Tidy D) {E' : List (Value × Value)} {key : Value} {kl : Lit} (hk : keyOf P k key = some kl) (hs : E'.Sublist E) (hm : ∀ p ∈ E, p ∈ E' ↔ p.1 ≠ key) (hl : E'.length + (if Maps.has D kl then 1 else 0) = E.length) : Vw P k (D.del kl) E' := by
  refine ⟨h.apart.sublist hs, ?_, fun p hp => ?_, fun kl' hh => ?_⟩
  · have := size_del (k := kl) T
    rw [h.size] at this
    omega
  · have hp' := hs.subset hp
    obtain ⟨kl', h1, h2, h3⟩ := h.into p hp'
    have hne : kl' ≠ kl := fun e => (hm p hp').1 hp (K.inj (e ▸ h1) hk)
    exact ⟨kl', h1, by rw [has_del_other hne]; exact h2, fun z => by rw [atKey_del_other hne]; exact h3 z⟩
  · by_cases e : kl' = kl
    · subst e
      rw [has_del_same] at hh; cases hh
    · rw [has_del_other e] at hh
      obtain ⟨p, hp, q⟩ := h.back kl' hh
      refine ⟨p, (hm p hp).2 fun r => e ?_, q⟩
      rw [r, hk] at q
      exact (Option.some.inj q).symm

/-- Block b is a map that holds just the entries E. -/
def Mp (P : Program) (k : TypeId) (w : World) (b : Nat) (E : List (Value × Value)) : Prop := ∃ D, w.ownsMap P k rawE b E.length D ∧ Vw P k D E
theorem owns_size {n : Nat} (h : w.ownsMap P k rawE b n D) : w.ownsMap P k rawE b (Maps.size D) D := by
  obtain ⟨es, clock, hb, F, hs, rfl⟩ := h
  exact ⟨es, clock, hb, F, by simp [Maps.size, length_sorted], rfl⟩
theorem Mp.of {n : Nat} (h : w.ownsMap P k rawE b n D) (v : Vw P k D E) : Mp P k w b E := ⟨D, by have := owns_size h; rwa [v.size] at this, v⟩
theorem Mp.lt (h : Mp P k w b E) : b < w.heap.size := by obtain ⟨D, h, _⟩ := h; exact h.lt
theorem Mp.kept {row : Option Nat} (h : Mp P k w b E) (hg : w.grownBy w' row) (hne : some b ≠ row) : Mp P k w' b E := by obtain ⟨D, h, v⟩ := h; exact ⟨D, h.kept hg hne, v⟩
theorem Mp.stay (h : Mp P k w b E) (hb : w'.heap[b]? = w.heap[b]?) : Mp P k w' b E := by
  obtain ⟨D, ⟨es, clock, h1, h2⟩, v⟩ := h
  exact ⟨D, ⟨es, clock, hb.trans h1, h2⟩, v⟩
theorem Mp.ext (h : Mp P k w b E) (x : Ext w w') : Mp P k w' b E := h.stay (x.block _ h.lt)
theorem Mp.obj (h : Mp P k w b E) : ∃ es c, w.heap[b]? = some (.map es c) := by
  obtain ⟨D, ⟨es, clock, h1, _⟩, v⟩ := h
  exact ⟨es, clock, h1⟩
theorem Mp.apart (h : Mp P k w b E) : E.Pairwise (fun p q => p.1 ≠ q.1) := by obtain ⟨D, _, v⟩ := h; exact v.apart
theorem Mp.made (w : World) (P : Program) (k : TypeId) : Mp P k (w.alloc (.map #[] 0)) w.heap.size [] := ⟨_, World.ownsMap_made w P k rawE, Vw.nil P k⟩
theorem Mp.look (h : Mp P k w b E) (K : Keyed P k) (ht : P.underlying t = some (.map k e)) {z : Value} (hz : (zeroValue e).run P w = .ok z w) {key : Value} {kl : Lit} (hkey : keyOf P k key = some kl) :
    (∃ v, (key, v) ∈ E ∧ (Instr.lookup t (.map (some b)) key true).run P w = .ok (.tuple #[v, .bool true]) w ∧ (Instr.lookup t (.map (some b)) key false).run P w = .ok v w) ∨
    ((∀ p ∈ E, p.1 ≠ key) ∧ (Instr.lookup t (.map (some b)) key true).run P w = .ok (.tuple #[z, .bool false]) w ∧ (Instr.lookup t (.map (some b)) key false).run P w = .ok z w) := by
  obtain ⟨D, h, v⟩ := h
  obtain ⟨x, ps, r1, r2⟩ := h.look_ok K ht hz (zd := .held z) (zp := []) rfl hkey
  obtain ⟨x', ps', r1', r2'⟩ := h.lookup K ht hz (zd := .held z) (zp := []) rfl hkey
  injection r2 with r2
  injection r2' with r2'
  have e1 := congrArg Prod.fst r2
  have e2 := congrArg Prod.fst r2'
  cases hh : Maps.has D kl
  · right
    rw [atKey_of_not_has hh] at e1 e2
    injection e1 with e1
    injection e2 with e2
    subst e1
    subst e2
    rw [hh] at r1
    exact ⟨v.miss hkey hh, r1, r1'⟩
  · left
    obtain ⟨y, h1, h2⟩ := v.hit K hkey hh
    rw [h2] at e1 e2
    injection e1 with e1
    injection e2 with e2
    subst e1
    subst e2
    rw [hh] at r1
    exact ⟨_, h1, r1, r1'⟩
theorem Mp.add (h : Mp P k w b E) (K : Keyed P k) (ht : P.underlying t = some (.map k e)) (hn : E.length < maxLen) {key : Value} {kl : Lit} (hkey : keyOf P k key = some kl) (hm : ∀ p ∈ E, p.1 ≠ key) (v : Value) :
    ∃ w', (Instr.mapUpdate t (.map (some b)) key v).run P w = .ok () w' ∧ Mp P k w' b (E ++ [(key, v)]) ∧ w.grownBy w' (some b) ∧ ∃ es c, w'.heap[b]? = some (.map es c) := by
  obtain ⟨D, h, vw⟩ := h
  obtain ⟨w1, r1, r2, r3⟩ := h.update K ht hn hkey (d := .held v) (ps := []) rfl
  have m : Mp P k w1 b (E ++ [(key, v)]) := Mp.of r2 (vw.add K (h.tidy K) hkey hm)
  exact ⟨w1, r1, m, r3, m.obj⟩
theorem Mp.drop (h : Mp P k w b E) (K : Keyed P k) (ht : P.underlying t = some (.map k e)) {key : Value} {kl : Lit} (hkey : keyOf P k key = some kl) {E' : List (Value × Value)} (hs : E'.Sublist E) (hm : ∀ p ∈ E, p ∈ E' ↔ p.1 ≠ key) (hl : (∀ p ∈ E, p.1 ≠ key) ∨ E'.length + 1 = E.length) (ty : TypeId) :
    ∃ w', (Builtin.delete_ #[t, k] ty #[.map (some b), key]).run P w = .ok (.tuple #[]) w' ∧ Mp P k w' b E' ∧ w.mapTurned w' b := by
  obtain ⟨D, h, vw⟩ := h
  obtain ⟨w1, r1, r2, r3⟩ := h.drop K ht hkey ty
  refine ⟨w1, r1, Mp.of r2 (vw.del K (h.tidy K) hkey hs hm ?_), r3⟩
  rcases hl with hl | hl
  · rw [vw.has_false K hkey hl]
    have : E' = E := hs.eq_of_length_le (List.Nodup.length_le_of_subset (vw.apart.imp fun h e => h (congrArg Prod.fst e)) fun p hp => (hm p hp).2 (hl p hp))
    rw [this]; rfl
  · rcases hh : Maps.has D kl with _ | _
    · exfalso
      have hmiss := vw.miss hkey hh
      have : E.length ≤ E'.length := List.Nodup.length_le_of_subset (vw.apart.imp fun h e => h (congrArg Prod.fst e)) fun p hp => (hm p hp).2 (hmiss p hp)
      omega
    · simpa using hl
theorem Mp.len (h : Mp P k w b E) (ht : P.underlying t = some (.map k e)) (ty : TypeId) : (Builtin.len_ #[t] ty #[.map (some b)]).run P w = .ok (.int .i64 (E.length : Int)) w := by
  obtain ⟨D, h, vw⟩ := h
  rw [h.len ht ty, vw.size]

/-- A range over the map in block b is under way, its iterator in block r; lf: the keys that are still to come. -/
def Mr (P : Program) (k : TypeId) (w : World) (b r : Nat) (E : List (Value × Value)) (lf : Value → Prop) (cnt : Nat) : Prop :=
  ∃ D left, w.ranges P k rawE b r E.length D left cnt ∧ Vw P k D E ∧ ∀ p ∈ E, (lf p.1 ↔ ∃ kl, keyOf P k p.1 = some kl ∧ left kl = true)
theorem Mr.mp {r cnt : Nat} {lf : Value → Prop} (h : Mr P k w b r E lf cnt) : Mp P k w b E := by obtain ⟨D, left, h, v, _⟩ := h; exact ⟨D, h.owns, v⟩
theorem Mr.kept {r cnt : Nat} {lf : Value → Prop} {row : Option Nat} (h : Mr P k w b r E lf cnt) (hg : w.grownBy w' row) (hb : some b ≠ row) (hr : some r ≠ row) : Mr P k w' b r E lf cnt := by
  obtain ⟨D, left, h, v⟩ := h
  exact ⟨D, left, h.kept hg hb hr, v⟩
theorem Mr.ext {r cnt : Nat} {lf : Value → Prop} (h : Mr P k w b r E lf cnt) (x : Ext w w') : Mr P k w' b r E lf cnt := h.kept (row := none) ⟨x.os, x.tape, x.output, x.size, fun i hi _ => x.block i hi⟩ (by simp) (by simp)
theorem Mr.lt {r cnt : Nat} {lf : Value → Prop} (h : Mr P k w b r E lf cnt) : r < w.heap.size := by obtain ⟨D, left, h, _⟩ := h; exact h.lt
theorem Mr.left_eq {r cnt : Nat} {lf : Value → Prop} (h : Mr P k w b r E lf cnt) : w.rangeLeft b r = cnt := by obtain ⟨D, left, h, _⟩ := h; exact h.left_eq
theorem Mp.range (h : Mp P k w b E) (K : Keyed P k) (ht : P.underlying t = some (.map k e)) :
    ∃ w', (Instr.range t (.map (some b))).run P w = .ok (.pointer (some ⟨w.heap.size, 0, none⟩)) w' ∧ Mr P k w' b w.heap.size E (fun _ => True) E.length ∧ Ext w w' := by
  obtain ⟨D, h, vw⟩ := h
  obtain ⟨w1, r1, r2, r3, r4⟩ := h.range K ht
  rw [vw.size] at r2
  exact ⟨w1, r1, ⟨D, _, r2, vw, fun p hp => ⟨fun _ => by obtain ⟨kl, h1, h2, _⟩ := vw.into p hp; exact ⟨kl, h1, h2⟩, fun _ => trivial⟩⟩, ⟨r3.os, r3.tape, r3.output, r3.size, fun i hi => r3.block i hi (by simp)⟩⟩
/-- The step: nothing is left, or an entry comes. -/
theorem Mr.next {r cnt : Nat} {lf : Value → Prop} (h : Mr P k w b r E lf cnt) (K : Keyed P k) (ty : TypeId) :
    ((∀ p ∈ E, ¬ lf p.1) ∧ (Instr.next (.pointer (some ⟨r, 0, none⟩)) false ty).run P w = .ok (.tuple #[.bool false]) w) ∨
    ∃ p ∈ E, lf p.1 ∧ ∃ w' cnt', (Instr.next (.pointer (some ⟨r, 0, none⟩)) false ty).run P w = .ok (.tuple #[.bool true, p.1, p.2]) w' ∧ Mr P k w' b r E (fun key => lf key ∧ key ≠ p.1) cnt' ∧ cnt' < cnt ∧
      w.grownBy w' (some r) ∧ w'.heap.size = w.heap.size ∧ (Instr.entry (.pointer (some ⟨r, 0, none⟩))).run P w' = .ok (.tuple #[p.1, p.2]) w' := by
  obtain ⟨D, left, h, vw, hl⟩ := h
  rcases h.next K ty with ⟨h0, hn, hrun⟩ | ⟨key, v, kl, y, w1, cnt', hkey, hlk, hv, hat, hrun, hrg, hlt, hgr, hsz, hen⟩
  · refine .inl ⟨fun p hp q => ?_, hrun⟩
    obtain ⟨kl, _, h2⟩ := (hl p hp).1 q
    rw [hn kl] at h2; cases h2
  · right
    have hh : Maps.has D kl = true := has_true_of_atKey hat
    obtain ⟨v', h1, h2⟩ := vw.hit K hkey hh
    have : v = v' := by
      have q := (hat (.held v)).symm.trans (h2 (.held v))
      injection hv with hv
      rw [← hv] at q
      injection q
    subst this
    refine ⟨(key, v), h1, (hl _ h1).2 ⟨kl, hkey, hlk⟩, w1, cnt', hrun, ⟨D, _, hrg, vw, fun p hp => ?_⟩, hlt, hgr, hsz, hen⟩
    show (lf p.1 ∧ p.1 ≠ key) ↔ _
    rw [hl p hp]
    constructor
    · rintro ⟨⟨kl', q1, q2⟩, q3⟩
      refine ⟨kl', q1, ?_⟩
      show (left kl' && !kl'.sameKey kl) = true
      rw [q2, sameKey_ne (fun e => q3 (K.inj (q1.trans (congrArg some e)) hkey))]
      rfl
    · rintro ⟨kl', q1, q2⟩
      have q2 : (left kl' && !kl'.sameKey kl) = true := q2
      simp only [Bool.and_eq_true, Bool.not_eq_true'] at q2
      refine ⟨⟨kl', q1, q2.1⟩, fun e => ?_⟩
      rw [show p.1 = key from e, hkey] at q1
      obtain rfl := Option.some.inj q1
      rw [WideAt.sameKey_self (K.key hkey)] at q2
      cases q2.2
end
end Go.Proofs.YtbnjmmefnjoofaaDoor
end

section
/-
  Maps at the operations of a walk: what is stored, struck, looked up. No conditions.
-/
namespace Go.Proofs.YtbnjmmefnjoofaaDoor
open Go.ChangeShapes Go.WideShapes Go.ChangeAt Go.RowKit Go.Deep Go.Maps

section
variable {P : Program} {ops : Array Oper} {rest : List Oper} {o : Oper} {a : Act} {w w' : World} {K : Act → World → Prop} {Q : Exit → Act → World → Prop} {t k : TypeId} {m x y : Operand} {mv xv yv : Value}
theorem wp_mapUpdate (ho : o.op = .mapUpdate t m x y) (hm : a.eval m = mv) (hx : a.eval x = xv) (hy : a.eval y = yv) (hr : (Instr.mapUpdate t mv xv yv).run P w = .ok () w') (h : K (a.put o.dst undef) w') : o.wp P a w K Q := by
  subst hm
  subst hx
  subst hy
  unfold Oper.wp execOp
  simp only [ho, Sem.run_bind, hr, Result.andThen_ok, Sem.run_pure]
  exact h
theorem wp_delete (ho : o.op = .call { callee := .builtin .delete, args := #[m, x], argTypes := #[t, k] }) (hm : a.eval m = mv) (hx : a.eval x = xv) (hr : (Builtin.delete_ #[t, k] 0 #[mv, xv]).run P w = .ok (.tuple #[]) w') (h : K (a.put o.dst (.tuple #[])) w') : o.wp P a w K Q := by
  subst hm
  subst hx
  replace hr : (Builtin.delete_ #[t, k] o.type #[a.eval m, a.eval x]).run P w = .ok (.tuple #[]) w' := hr
  unfold Oper.wp execOp
  simp only [ho, resolve, invoke, builtin, Sem.run_bind, Sem.run_pure, Result.andThen_ok, List.map_toArray, List.map_cons, List.map_nil, hr]
  exact h
theorem wp_call_len (ho : o.op = .call { callee := .builtin .len, args := #[m], argTypes := #[t] }) {v : Value} (hm : a.eval m = mv) (hr : (Builtin.len_ #[t] o.type #[mv]).run P w = .ok v w') (h : K (a.put o.dst v) w') : o.wp P a w K Q := by
  subst hm
  replace hr : (Builtin.len_ #[t] o.type #[a.eval m]).run P w = .ok v w' := hr
  unfold Oper.wp execOp
  simp only [ho, resolve, invoke, builtin, Sem.run_bind, Sem.run_pure, Result.andThen_ok, List.map_toArray, List.map_cons, List.map_nil, hr]
  exact h
theorem wpList_of_wp (hg : o.guard = none) (h : ∀ K : Act → World → Prop, (∀ a w, wpList P ops Q rest a w → K a w) → o.wp P a w K Q) : wpList P ops Q (o :: rest) a w := wpList_plain hg fun K hK => h K hK
theorem exec_lookup {c : Bool} {v : Value} (ho : o.op = .lookup t m x c) (hm : a.eval m = mv) (hx : a.eval x = xv) (hr : (Instr.lookup t mv xv c).run P w = .ok v w) : (execOp a.eval o).run P w = .ok (.value v) w := by
  subst hm
  subst hx
  unfold execOp
  simp only [ho, Sem.run_bind, hr, Result.andThen_ok, Sem.run_pure]
theorem wpList_range_mp {e : TypeId} {b r : Nat} {E : List (Value × Value)} (hg : o.guard = none) (m : Operand) (hop : o.op = Op.range t m) (Kk : Keyed P k) (ht : P.underlying t = some (.map k e)) (hm : a.eval m = .map (some b)) (h : Mp P k w b E) (hr : w.heap.size = r)
    (hK : ∀ w', Mr P k w' b r E (fun _ => True) E.length → Ext w w' → wpList P ops Q rest (a.put o.dst (.pointer (some ⟨r, 0, none⟩))) w') : wpList P ops Q (o :: rest) a w := by
  subst hr
  refine wpList_plain hg fun K' hK' => ?_
  obtain ⟨w1, r1, r2, r3⟩ := h.range Kk ht
  unfold Oper.wp
  simp [execOp, hop, hm, r1, Result.andThen]
  exact hK' _ _ (hK w1 r2 r3)
theorem wpList_next_mr {α : Type} {L : List α} (kv vv : α → Value) {b r cnt : Nat} {lf : Value → Prop} (hg : o.guard = none) (it : Operand) (hop : o.op = Op.next it false) (Kk : Keyed P k) (hit : a.eval it = .pointer (some ⟨r, 0, none⟩)) (h : Mr P k w b r (L.map fun x => (kv x, vv x)) lf cnt)
    (hDone : (∀ x ∈ L, ¬ lf (kv x)) → wpList P ops Q rest (a.put o.dst (.tuple #[.bool false])) w)
    (hMore : ∀ x ∈ L, lf (kv x) → ∀ w' cnt', Mr P k w' b r (L.map fun x => (kv x, vv x)) (fun key => lf key ∧ key ≠ kv x) cnt' → cnt' < cnt → w.grownBy w' (some r) → w'.heap.size = w.heap.size →
      (Instr.entry (.pointer (some ⟨r, 0, none⟩))).run P w' = .ok (.tuple #[kv x, vv x]) w' → wpList P ops Q rest (a.put o.dst (.tuple #[.bool true, kv x, vv x])) w') :
    wpList P ops Q (o :: rest) a w := by
  refine wpList_plain hg fun K' hK' => ?_
  unfold Oper.wp
  rcases h.next Kk o.type with ⟨h0, hrun⟩ | ⟨p, hp, hlf, w1, cnt1, hrun, hmr, hlt, hgr, hsz, hen⟩
  · simp [execOp, hop, hit, hrun, Result.andThen]
    exact hK' _ _ (hDone fun x hx => h0 _ (List.mem_map.2 ⟨x, hx, rfl⟩))
  · obtain ⟨x, hx, rfl⟩ := List.mem_map.1 hp
    simp [execOp, hop, hit, hrun, Result.andThen]
    exact hK' _ _ (hMore x hx hlf w1 cnt1 hmr hlt hgr hsz hen)
end
end Go.Proofs.YtbnjmmefnjoofaaDoor
end

section
/-
  A store into a map, at a key that is there or not; maps keyed by numbers as functions. No conditions.
-/
namespace Go.Proofs.YtbnjmmefnjoofaaDoor
open Go.ChangeShapes Go.WideShapes Go.ChangeAt Go.RowKit Go.Deep Go.Maps

section
variable {P : Program} {k t e : TypeId} {w w' : World} {b : Nat} {E E' : List (Value × Value)} {D : DataW Value}
theorem keys_len {A B : List (Value × Value)} (a : A.Pairwise fun p q => p.1 ≠ q.1) (h : ∀ p ∈ A, p.1 ∈ B.map (·.1)) : A.length ≤ B.length := by
  have := List.Nodup.length_le_of_subset (l₁ := A.map (·.1)) (l₂ := B.map (·.1)) (by rw [List.Nodup, List.pairwise_map]; exact a) (fun x hx => by
    obtain ⟨p, hp, rfl⟩ := List.mem_map.1 hx
    exact h p hp)
  simpa using this
theorem Vw.store (h : Vw P k D E) (K : Keyed P k) (T : Tidy D) {key v : Value} {kl : Lit} (hk : keyOf P k key = some kl) (ap : E'.Pairwise fun p q => p.1 ≠ q.1) (hm : ∀ p, p ∈ E' ↔ p = (key, v) ∨ (p.1 ≠ key ∧ p ∈ E)) : Vw P k (D.put kl (.held v)) E' := by
  have IK := K.key hk
  refine ⟨ap, ?_, fun p hp => ?_, fun kl' hh => ?_⟩
  · rw [size_put T]
    cases hh : Maps.has D kl
    · have hmiss := h.miss hk hh
      have l1 : E'.length ≤ ((key, v) :: E).length := keys_len ap fun p hp => by
        rcases (hm p).1 hp with rfl | ⟨_, q⟩
        · simp
        · exact List.mem_map.2 ⟨p, List.mem_cons_of_mem _ q, rfl⟩
      have l2 : ((key, v) :: E).length ≤ E'.length := keys_len (List.pairwise_cons.2 ⟨fun q hq z => hmiss q hq z.symm, h.apart⟩) fun p hp => by
        rcases List.mem_cons.1 hp with rfl | hp
        · exact List.mem_map.2 ⟨_, (hm _).2 (.inl rfl), rfl⟩
        · exact List.mem_map.2 ⟨p, (hm p).2 (.inr ⟨hmiss p hp, hp⟩), rfl⟩
      have := h.size
      simp only [List.length_cons] at l1 l2
      simp only [Bool.false_eq_true, if_false]
      omega
    · obtain ⟨v', hv', _⟩ := h.hit K hk hh
      have l1 : E'.length ≤ E.length := keys_len ap fun p hp => by
        rcases (hm p).1 hp with rfl | ⟨_, q⟩
        · exact List.mem_map.2 ⟨_, hv', rfl⟩
        · exact List.mem_map.2 ⟨p, q, rfl⟩
      have l2 : E.length ≤ E'.length := keys_len h.apart fun p hp => by
        by_cases q : p.1 = key
        · rw [q]; exact List.mem_map.2 ⟨_, (hm _).2 (.inl rfl), rfl⟩
        · exact List.mem_map.2 ⟨p, (hm p).2 (.inr ⟨q, hp⟩), rfl⟩
      have := h.size
      simp only [if_true]
      omega
  · rcases (hm p).1 hp with rfl | ⟨q1, q2⟩
    · exact ⟨kl, hk, has_put_same T.isMap IK _, fun z => atKey_put_same T.isMap IK _ z⟩
    · obtain ⟨kl', h1, h2, h3⟩ := h.into p q2
      have hne : kl' ≠ kl := fun z => q1 (K.inj (h1.trans (congrArg some z)) hk)
      exact ⟨kl', h1, by rw [has_put_other hne]; exact h2, fun z => by rw [atKey_put_other hne]; exact h3 z⟩
  · by_cases z : kl' = kl
    · subst z
      exact ⟨(key, v), (hm _).2 (.inl rfl), hk⟩
    · rw [has_put_other z] at hh
      obtain ⟨p, hp, q⟩ := h.back kl' hh
      refine ⟨p, (hm p).2 (.inr ⟨fun r => z ?_, hp⟩), q⟩
      rw [r, hk] at q
      exact (Option.some.inj q).symm
theorem Mp.store (h : Mp P k w b E) (K : Keyed P k) (ht : P.underlying t = some (.map k e)) (hn : E.length < maxLen) {key v : Value} {kl : Lit} (hkey : keyOf P k key = some kl) (ap : E'.Pairwise fun p q => p.1 ≠ q.1) (hm : ∀ p, p ∈ E' ↔ p = (key, v) ∨ (p.1 ≠ key ∧ p ∈ E)) :
    ∃ w', (Instr.mapUpdate t (.map (some b)) key v).run P w = .ok () w' ∧ Mp P k w' b E' ∧ w.grownBy w' (some b) := by
  obtain ⟨D, h, vw⟩ := h
  obtain ⟨w1, r1, r2, r3⟩ := h.update K ht hn hkey (d := .held v) (ps := []) rfl
  exact ⟨w1, r1, Mp.of r2 (vw.store K (h.tidy K) hkey ap hm), r3⟩

/-- The entries of a function on the numbers below m. -/
def entN (m : Nat) (f : Nat → Option Value) : List (Value × Value) := (List.range m).filterMap fun i => (f i).map fun v => (.int .i64 (i : Int), v)
theorem entN_mem {m : Nat} {f : Nat → Option Value} {p : Value × Value} : p ∈ entN m f ↔ ∃ i v, i < m ∧ f i = some v ∧ p = (.int .i64 (i : Int), v) := by
  unfold entN
  rw [List.mem_filterMap]
  constructor
  · rintro ⟨i, hi, hp⟩
    obtain ⟨v, hv, rfl⟩ := Option.map_eq_some_iff.1 hp
    exact ⟨i, v, List.mem_range.1 hi, hv, rfl⟩
  · rintro ⟨i, v, hi, hv, rfl⟩
    exact ⟨i, List.mem_range.2 hi, by rw [hv]; rfl⟩
theorem entN_apart (m : Nat) (f : Nat → Option Value) : (entN m f).Pairwise fun p q => p.1 ≠ q.1 := by
  unfold entN
  rw [List.pairwise_filterMap]
  refine List.nodup_range.imp ?_
  intro i j hij p hp q hq
  obtain ⟨v, _, rfl⟩ := Option.map_eq_some_iff.1 hp
  obtain ⟨v', _, rfl⟩ := Option.map_eq_some_iff.1 hq
  intro z
  injection z with _ z
  exact hij (by omega)
theorem entN_len (m : Nat) (f : Nat → Option Value) : (entN m f).length ≤ m := by
  have := List.length_filterMap_le (fun i => (f i).map fun v => ((.int .i64 (i : Int), v) : Value × Value)) (List.range m)
  rw [List.length_range] at this
  exact this
theorem entN_set {m i : Nat} {f : Nat → Option Value} {v : Value} (hi : i < m) (p : Value × Value) : p ∈ entN m (fun j => if j = i then some v else f j) ↔ p = (.int .i64 (i : Int), v) ∨ (p.1 ≠ .int .i64 (i : Int) ∧ p ∈ entN m f) := by
  rw [entN_mem, entN_mem]
  constructor
  · rintro ⟨j, u, hj, hu, rfl⟩
    by_cases e : j = i
    · subst e
      rw [if_pos rfl] at hu
      exact .inl (by rw [Option.some.inj hu])
    · rw [if_neg e] at hu
      refine .inr ⟨fun z => e ?_, j, u, hj, hu, rfl⟩
      injection z with _ z
      omega
  · rintro (rfl | ⟨h1, j, u, hj, hu, rfl⟩)
    · exact ⟨i, v, hi, if_pos rfl, rfl⟩
    · refine ⟨j, u, hj, ?_, rfl⟩
      rw [if_neg (fun z => h1 (by rw [z]))]
      exact hu
theorem int_key {ki : TypeId} (hk : P.underlying ki = some (.int .i64)) {i : Int} (hi : -9223372036854775808 ≤ i ∧ i ≤ 9223372036854775807) : keyOf P ki (.int .i64 i) = some (.int .i64 i) :=
  keyOf_int_mk hk (WalkArith.wf_i64 hi)
end
end Go.Proofs.YtbnjmmefnjoofaaDoor
end

section
/-
  kdf.Draw.
-/
namespace Go.Proofs.YtbnjmmefnjoofaaDoor
open Go.ChangeShapes Go.WideShapes Go.ChangeAt Go.RowKit Go.Deep

set_option maxRecDepth 100000 in
set_option maxHeartbeats 1000000 in
theorem draw_calls {A : Option Addr} {m d : Nat} {ks bs : List UInt8} {w : World} (hk : ks.length = 32) (h : Bs w A m d bs) {tg : TypeId × Nat × Nat} (hG : Gl w tg) :
    Calls Tryd.prog 40 #[.agg (cellsOf ks).toArray, .slice A m d] w fun e w' => e = .returned (.agg (cellsOf (macL ks bs)).toArray) ∧ Ext w w' := by
  have hal : ∀ w, (zeroValue 23).run Tryd.prog w = .ok (.agg zeros32) w := fun _ => by kernel_rfl
  have HL : (cellsOf (macL ks bs)).toArray.size = 32 := by simp [cellsOf_len, macL_len]
  have H1 := cellsOf_one (macL ks bs)
  have KB : Hid (∀ o, Bs ((w.alloc (Obj.cells (cellsOf ks).toArray 23)).alloc o) (some ⟨w.heap.size, 0, none⟩) 32 32 ks) := fun o => (Ky.bs (Ky.boxed w hk)).ext ((Ext.refl _).alloc _)
  have CALL : Hid (∀ W, Ext w W → Bs W (some ⟨w.heap.size, 0, none⟩) 32 32 ks → Calls Tryd.prog 43 #[.slice (some ⟨w.heap.size, 0, none⟩) 32 32, .slice A m d] W fun e w' => e = .returned (.tuple #[.agg (cellsOf (macL ks bs)).toArray, .int .i64 0]) ∧ Ext W w') :=
    fun W e b => mac_calls b (h.ext e) (by omega) (hG.kept e hG.lt)
  clear hG
  have hz0 := zeros32_size
  generalize zeros32 = Z at *
  generalize (cellsOf (macL ks bs)).toArray = D at *
  generalize (cellsOf ks).toArray = KS at *
  go_enter Tryd.func40, Tryd.ntmps40
  go_wp2_with fail
  refine (CALL.out _ (((Ext.refl w).alloc _).alloc _) (KB.out _)).mono ?_
  rintro e w1 ⟨rfl, e1⟩
  have r0 := Lib.hid ((e1.block (w.heap.size + 1) (by rw [size_alloc, size_alloc]; omega)).trans (heap_alloc2 w (Obj.cells KS 23) (Obj.cells Z 23)))
  have r1 : Hid (((w1.alloc (Obj.cells Z 23)).setRow w1.heap.size D).heap[w.heap.size + 1]? = some (Obj.cells Z 23)) := (setRow_other _ _ _ _ (Nat.ne_of_lt (heap_lt r0.out))).trans (((Ext.refl w1).alloc _ |>.block _ (heap_lt r0.out)).trans r0.out)
  clear CALL KB
  go_wp2_with (first
    | refine wpList_store_row rfl 23 _ _ rfl w1.heap.size D rfl rfl 23 _ (by with_reducible exact heap_alloc_new _ _) (by rw [HL]; rfl) (by rw [HL]; exact hz0) H1 ?_
    | refine wpList_load_row rfl 23 _ rfl w1.heap.size rfl 23 D (0, 0) _ (by with_reducible exact setRow_heap _ _ _ _ _ _ (heap_alloc_new _ _)) rfl rfl (by rw [HL]; rfl) ?_
    | refine wpList_store_row rfl 23 _ _ rfl (w.heap.size + 1) D rfl rfl 23 Z (by with_reducible exact r1.out) (by rw [HL]; rfl) (by rw [HL]; exact hz0) H1 ?_)
  (try simp only [Exit.inBlock, Exit.then])
  refine bodyPost_ret (results_cell_row rfl _ _ (w.heap.size + 1) 23 D (0, 0) _ rfl (setRow_heap _ _ _ _ _ _ r1.out) rfl rfl (by rw [HL]; rfl)) rfl ?_
  exact ⟨rfl, below_setRow (below_setRow (((((Ext.refl w).alloc _).alloc _).trans e1).alloc _) (Nat.le_trans (Nat.le_succ _) (Nat.le_of_lt (heap_lt r0.out))) _) (Nat.le_succ _) _⟩
end Go.Proofs.YtbnjmmefnjoofaaDoor
end

section
/-
  stamp.New, what it creates keys with; the state of a relay; key.
-/
namespace Go.Proofs.YtbnjmmefnjoofaaDoor
open Go.ChangeShapes Go.WideShapes Go.ChangeAt Go.RowKit Go.Deep Go.Maps
set_option maxRecDepth 100000

theorem key_alloc16 (w : World) : (zeroValue 23).run Tryd.prog w = .ok (.agg zeros32) w := by kernel_rfl
theorem int_law16 : Keyed Tryd.prog 3 := int_keyed Tryd.underlying3
/-- A relay at block g: its map at block b, its root at block q. -/
structure SR (w : World) (g b q : Nat) (root : List UInt8) (ticks : Nat) (E : List (Value × Value)) : Prop where
  cb : Cb w g 108 [.int .i64 (ticks : Int), .map (some b), .func (.func 39) #[] #[.pointer (some ⟨q, 0, none⟩)]]
  kr : Ky w q root
  mp : Mp Tryd.prog 3 w b E
  en : ∀ p ∈ E, ∃ e : Nat, p = (.int .i64 (e : Int), .agg (cellsOf (ekL root e)).toArray)
section
variable {w w' : World} {g b q ticks : Nat} {root : List UInt8} {E : List (Value × Value)}
theorem SR.stay (h : SR w g b q root ticks E) (hg : w'.heap[g]? = w.heap[g]?) (hq : w'.heap[q]? = w.heap[q]?) (hb : w'.heap[b]? = w.heap[b]?) : SR w' g b q root ticks E := ⟨hg.trans h.cb, ⟨hq.trans h.kr.1, h.kr.2⟩, h.mp.stay hb, h.en⟩
theorem SR.ext (h : SR w g b q root ticks E) (x : Ext w w') : SR w' g b q root ticks E := h.stay (x.block _ h.cb.lt) (x.block _ (heap_lt h.kr.1)) (x.block _ h.mp.lt)
theorem SR.gb (h : SR w g b q root ticks E) : g ≠ b := fun e => by
  obtain ⟨es, c, z⟩ := h.mp.obj
  have h1 := h.cb
  unfold Cb at h1
  rw [e, z] at h1
  cases h1
theorem SR.qb (h : SR w g b q root ticks E) : q ≠ b := fun e => by
  obtain ⟨es, c, z⟩ := h.mp.obj
  have h1 := h.kr.1
  rw [e, z] at h1
  cases h1
end
theorem snew16_bad {w : World} {root : List UInt8} {z : Int} (h : z < 1 ∨ 1000000 < z) : Calls Tryd.prog 22 #[.agg (cellsOf root).toArray, .int .i64 z] w fun e w' => e = .returned (.tuple #[.pointer none, .int .i64 1]) ∧ Ext w w' := by
  have X := Lib.hid ((Ext.refl w).alloc (.cells (cellsOf root).toArray 23))
  by_cases h1 : z < 1
  · have u1 : decide (z < 1) = true := decide_eq_true h1
    clear h
    go_enter Tryd.func22, Tryd.ntmps22
    go_wp2_with fail
    go_ret2
    exact ⟨rfl, X.out⟩
  · have u1 : decide (z < 1) = false := decide_eq_false h1
    have h2 : 1000000 < z := h.resolve_left h1
    have u2 : decide (1000000 < z) = true := decide_eq_true h2
    clear h
    go_enter Tryd.func22, Tryd.ntmps22
    go_wp2_with fail
    go_ret2
    exact ⟨rfl, X.out⟩
theorem snew16_ok {w : World} {root : List UInt8} {n : Nat} (lr : root.length = 32) (n1 : 1 ≤ n) (n6 : n ≤ 1000000) :
    Calls Tryd.prog 22 #[.agg (cellsOf root).toArray, .int .i64 (n : Int)] w fun e w' => ∃ (g b q : Nat), e = .returned (.tuple #[.pointer (some ⟨g, 0, none⟩), .int .i64 0]) ∧ (w.heap.size ≤ g ∧ w.heap.size ≤ b ∧ w.heap.size ≤ q) ∧ SR w' g b q root n [] ∧ Ext w w' := by
  have u1 : decide ((n : Int) < 1) = false := decide_eq_false (by omega)
  have u2 : decide (1000000 < (n : Int)) = false := decide_eq_false (by omega)
  have hmm := @run_makeMap Tryd.prog
  have hmf : ∀ (fn : Fn) (first cap : Array Value) (w : World), (Instr.makeFunc fn first cap).run Tryd.prog w = .ok (.func fn first cap) w := fun _ _ _ _ => rfl
  obtain ⟨C, hC⟩ : ∃ C, C = cellsOf root := ⟨_, rfl⟩
  rw [← hC]
  have hb : Hid (∀ b q : Nat, Tryd.prog.built 108 [(0, .int .i64 (n : Int)), (1, .map (some b)), (2, .func (.func 39) #[] #[.pointer (some ⟨q, 0, none⟩)])] = some #[.int .i64 (n : Int), .map (some b), .func (.func 39) #[] #[.pointer (some ⟨q, 0, none⟩)]]) := fun b q => by kernel_rfl
  have FIN : Hid (SR (((w.alloc (.cells C.toArray 23)).alloc (.map #[] 0)).alloc (.cells #[.int .i64 (n : Int), .map (some (w.heap.size + 1)), .func (.func 39) #[] #[.pointer (some ⟨w.heap.size, 0, none⟩)]] 108)) (w.heap.size + 1 + 1) (w.heap.size + 1) w.heap.size root n [] ∧ Ext w (((w.alloc (.cells C.toArray 23)).alloc (.map #[] 0)).alloc (.cells #[.int .i64 (n : Int), .map (some (w.heap.size + 1)), .func (.func 39) #[] #[.pointer (some ⟨w.heap.size, 0, none⟩)]] 108))) := by
    have m1 := Mp.made (w.alloc (.cells C.toArray 23)) Tryd.prog 3
    rw [show (w.alloc (.cells C.toArray 23)).heap.size = w.heap.size + 1 by simp] at m1
    have c1 := Cb.new ((w.alloc (.cells C.toArray 23)).alloc (.map #[] 0)) 108 [.int .i64 (n : Int), .map (some (w.heap.size + 1)), .func (.func 39) #[] #[.pointer (some ⟨w.heap.size, 0, none⟩)]]
    rw [show ((w.alloc (.cells C.toArray 23)).alloc (.map #[] 0)).heap.size = w.heap.size + 1 + 1 by simp] at c1
    refine ⟨⟨c1, ⟨?_, lr⟩, m1.ext ((Ext.refl _).alloc _), fun p hp => by cases hp⟩, (((Ext.refl w).alloc _).alloc _).alloc _⟩
    rw [← hC]
    exact (Cb.new w 23 C).ext (((Ext.refl _).alloc _).alloc _)
  replace hC := Lib.hid (fun _ : Unit => hC)
  go_enter Tryd.func22, Tryd.ntmps22
  go_wp2_with (refine wpList_build_as rfl _ _ rfl #[.int .i64 (n : Int), .map (some (w.heap.size + 1)), .func (.func 39) #[] #[.pointer (some ⟨w.heap.size, 0, none⟩)]] (by simp only [List.map_toArray, List.map_cons, List.map_nil]; exact hb.out _ _) ?_; go_frame)
  go_ret2
  exact ⟨_, _, _, rfl, ⟨by omega, by omega, Nat.le_refl _⟩, FIN.out⟩
set_option maxHeartbeats 2000000 in
theorem create16_calls {w : World} {q ep : Nat} {root : List UInt8} (hk : Ky w q root) (he : ep ≤ 1000000) {tg : TypeId × Nat × Nat} (hG : Gl w tg) :
    Calls Tryd.prog 39 #[.int .i64 (ep : Int), .pointer (some ⟨q, 0, none⟩)] w fun e w' => e = .returned (.agg (cellsOf (ekL root ep)).toArray) ∧ Ext w w' := by
  have H4 : Hid (∀ (W : World), Calls Tryd.prog 41 #[.int .u64 (ep : Int), .int .i64 4] W (RetBs (hiB ep 4) W)) := fun W => high_calls (by omega) (by omega) (by omega) (by omega) rfl
  have DR : Hid (∀ (W : World) (A : Option Addr) (m d : Nat), Ext w W → Bs W A m d (hiB ep 4) → Calls Tryd.prog 40 #[.agg (cellsOf root).toArray, .slice A m d] W fun e w' => e = .returned (.agg (cellsOf (ekL root ep)).toArray) ∧ Ext W w') := fun W A m d e b => draw_calls hk.2 b (hG.kept e hG.lt)
  have u1 : IntKind.u64.wrap (ep : Int) = (ep : Int) := IntWalk.u64_in _ (by omega)
  have L_e : (ekL root ep).length = 32 := macL_len _ _
  have S_r := hk.size
  have hal := key_alloc16
  have S_Z := zeros32_size
  clear hG
  generalize ekL root ep = ek at *
  generalize hiB ep 4 = h4 at *
  have S_e : (cellsOf ek).toArray.size = 32 := by simp [cellsOf_len, L_e]
  have O_e := cellsOf_one ek
  generalize zeros32 = Z at *
  have ql := heap_lt hk.1
  have B0 : Hid (Ky (w.alloc (.cells Z 23)) q root ∧ (w.alloc (.cells Z 23)).heap[w.heap.size]? = some (.cells Z 23 (0, 0)) ∧ Ext w (w.alloc (.cells Z 23))) := ⟨hk.ext ((Ext.refl w).alloc _), heap_alloc_new _ _, (Ext.refl w).alloc _⟩
  go_enter Tryd.func39, Tryd.ntmps39
  go_upto_region 1 with fail
  refine wp_gen (fun W => Ky W q root ∧ W.heap[w.heap.size]? = some (.cells Z 23 (0, 0)) ∧ Ext w W) B0.out ?_
  obtain ⟨g3, hg3⟩ : ∃ g, g = w.heap.size := ⟨_, rfl⟩
  rw [← hg3]
  rw [← hg3] at ql
  have wg3 : w.heap.size ≤ g3 := Nat.le_of_eq hg3.symm
  replace hg3 := Lib.hid hg3
  clear B0 hk
  rintro w0 ⟨k0, z0, x0⟩
  have z0l := heap_lt z0
  have F1 : Hid (∀ s, Below g3 w0.drew s → s.heap[q]? = some (.cells (cellsOf root).toArray 23 (0, 0))) := fun s e => (e.block q ql).trans k0.1
  have z1 : Hid (w0.drew.heap[g3]? = some (.cells Z 23 (0, 0))) := z0
  have x1 : Hid (Ext w w0.drew) := x0.drew
  have z1l : Hid (g3 ≤ w0.drew.heap.size) := Nat.le_of_lt z0l
  clear k0 z0 x0 z0l
  refine qgB g3 [0, 1, 2, 3, 4, 5] [3, 4, 5] ?_
  generalize w0.drew = W at *
  refine qV rfl (fun w' => w'.heap[q]? = some (.cells (cellsOf root).toArray 23 (0, 0))) (fun w' e => F1.out w' e) (.agg (cellsOf root).toArray) (fun w' hF => exec_load_row rfl rfl hF rfl rfl (by rw [S_r]; rfl)) ?_
  go_frame
  repeat ((first | refine qR0 ?_ | refine qS ?_); go_frame)
  refine qD fun K hK => ?_
  go_simp
  refine (H4.out _).mono ?_
  rintro e w1 ⟨A1, n1, m1, rfl, b1, e1⟩
  have D1 := Lib.hid (DR.out w1 A1 n1 m1 (x1.out.trans e1) b1)
  refine hK.out _ _ (Below.mono e1 z1l.out) ?_
  clear hK K
  try go_frame
  have z2 : Hid (w1.heap[g3]? = some (.cells Z 23 (0, 0))) := (e1.block _ (heap_lt z1.out)).trans z1.out
  have x2 : Hid (Ext w w1) := x1.out.trans e1
  have z2l : Hid (g3 ≤ w1.heap.size) := Nat.le_trans z1l.out e1.size
  clear H4 DR F1 b1 e1 z1 x1 z1l
  refine qD fun K hK => ?_
  go_simp
  refine D1.out.mono ?_
  rintro e w2 ⟨rfl, e2⟩
  refine hK.out _ _ (Below.mono e2 z2l.out) ?_
  clear hK K
  try go_frame
  have z3 : Hid (w2.heap[g3]? = some (.cells Z 23 (0, 0))) := (e2.block _ (heap_lt z2.out)).trans z2.out
  have x3 : Hid (Ext w w2) := x2.out.trans e2
  clear D1 e2 z2 x2 z2l
  refine qD fun K hK => ?_
  refine wp_store_row _ _ _ rfl g3 (cellsOf ek).toArray rfl rfl 23 Z z3.out (by rw [S_e]; rfl) (by rw [S_e, S_Z]) O_e ?_
  refine hK.out _ _ (below_setRow (Below.refl _ _) (Nat.le_refl _) _) ?_
  clear hK K
  try simp only [Act.put]
  refine seq_done ?_
  have F : Hid (Ext w (w2.setRow g3 (cellsOf ek).toArray)) := below_setRow x3.out wg3 _
  go_wp2_with fail
  (try simp only [Exit.inBlock, Exit.then])
  refine bodyPost_ret (results_cell_row rfl _ _ g3 23 (cellsOf ek).toArray (0, 0) _ rfl (setRow_heap _ _ _ _ _ _ z3.out) rfl rfl (by rw [S_e]; rfl)) rfl ?_
  exact ⟨rfl, F.out⟩
end Go.Proofs.YtbnjmmefnjoofaaDoor
end

section
/-
  (*stamp.Relay).key.
-/
namespace Go.Proofs.YtbnjmmefnjoofaaDoor
open Go.ChangeShapes Go.WideShapes Go.ChangeAt Go.RowKit Go.Deep Go.Maps
set_option maxRecDepth 100000

theorem wpList_lookup_mp16 {P : Program} {ops : Array Oper} {rest : List Oper} {o : Oper} {a : Act} {w : World} {Q : Exit → Act → World → Prop} {c : Bool} {t : TypeId} {mv xv v : Value} (hg : o.guard = none) (m x : Operand) (hop : o.op = Op.lookup t m x c) (hm : a.eval m = mv) (hx : a.eval x = xv)
    (hr : (Instr.lookup t mv xv c).run P w = .ok v w) (h : wpList P ops Q rest (a.put o.dst v) w) : wpList P ops Q (o :: rest) a w := by
  refine wpList_plain hg fun K' hK' => ?_
  unfold Oper.wp
  simp [execOp, hop, hm, hx, hr, Result.andThen]
  exact hK' _ _ h
theorem SR.look {w : World} {g b q ticks : Nat} {root : List UInt8} {E : List (Value × Value)} (h : SR w g b q root ticks E) {ep : Nat} (he : ep ≤ 1000000) :
    ((Instr.lookup 106 (.map (some b)) (.int .i64 (ep : Int)) true).run Tryd.prog w = .ok (.tuple #[.agg (cellsOf (ekL root ep)).toArray, .bool true]) w) ∨
    ((∀ p ∈ E, p.1 ≠ .int .i64 (ep : Int)) ∧ (Instr.lookup 106 (.map (some b)) (.int .i64 (ep : Int)) true).run Tryd.prog w = .ok (.tuple #[.agg zeros32, .bool false]) w) := by
  rcases h.mp.look int_law16 Tryd.underlying106 (key_alloc16 w) (int_key Tryd.underlying3 (i := (ep : Int)) (by omega)) with ⟨v, h1, h2, _⟩ | ⟨h1, h2, _⟩
  · left
    obtain ⟨e, z⟩ := h.en _ h1
    injection z with z1 z2
    injection z1 with _ z1
    obtain rfl : ep = e := by omega
    rw [h2, z2]
  · exact .inr ⟨h1, h2⟩
theorem SR.add {w : World} {g b q ticks : Nat} {root : List UInt8} {E : List (Value × Value)} (h : SR w g b q root ticks E) {ep : Nat} (he : ep ≤ 1000000) (hE : E.length ≤ 1000000) (hn : ∀ p ∈ E, p.1 ≠ .int .i64 (ep : Int)) :
    ∃ w', (Instr.mapUpdate 106 (.map (some b)) (.int .i64 (ep : Int)) (.agg (cellsOf (ekL root ep)).toArray)).run Tryd.prog w = .ok () w' ∧ SR w' g b q root ticks (E ++ [(.int .i64 (ep : Int), .agg (cellsOf (ekL root ep)).toArray)]) ∧ w.grownBy w' (some b) := by
  obtain ⟨w1, r1, r2, r3, _⟩ := h.mp.add int_law16 Tryd.underlying106 (by unfold maxLen; omega) (int_key Tryd.underlying3 (i := (ep : Int)) (by omega)) hn (.agg (cellsOf (ekL root ep)).toArray)
  refine ⟨w1, r1, ⟨(r3.block _ h.cb.lt (fun z => h.gb (Option.some.inj z))).trans h.cb, ⟨(r3.block _ (heap_lt h.kr.1) (fun z => h.qb (Option.some.inj z))).trans h.kr.1, h.kr.2⟩, r2, fun p hp => ?_⟩, r3⟩
  rcases List.mem_append.1 hp with z | z
  · exact h.en p z
  · exact ⟨ep, List.mem_singleton.1 z⟩
set_option maxHeartbeats 4000000 in
theorem key16_calls {w : World} {g mb q ticks ep : Nat} {root : List UInt8} {E : List (Value × Value)} (h : SR w g mb q root ticks E) (he : ep ≤ 1000000) (hE : E.length ≤ 1000000) {tg : TypeId × Nat × Nat} (hG : Gl w tg) :
    Calls Tryd.prog 50 #[.pointer (some ⟨g, 0, none⟩), .int .i64 (ep : Int)] w fun e w' => e = .returned (.agg (cellsOf (ekL root ep)).toArray) ∧ (∃ E', SR w' g mb q root ticks E' ∧ E'.length ≤ E.length + 1) ∧ w.grownBy w' (some mb) := by
  have CR := Lib.hid (fun (W : World) (x : Ext w W) => create16_calls (ep := ep) ((h.ext x).kr) he (hG.kept x hG.lt))
  have LK := Lib.hid (fun (W : World) (x : Ext w W) => (h.ext x).look he)
  have AD := Lib.hid (fun (W : World) (x : Ext w W) hn => (h.ext x).add he hE hn)
  have SE : Hid (∀ s, Ext w s → SR s g mb q root ticks E) := fun s x => h.ext x
  have L_e : (ekL root ep).length = 32 := macL_len _ _
  have hal := key_alloc16
  have S_Z := zeros32_size
  have O_Z : zeros32.all (·.oneCell') = true := by kernel_rfl
  have gl := h.cb.lt
  have bl := h.mp.lt
  have ql := heap_lt h.kr.1
  have gnb := h.gb
  clear hG h
  generalize ekL root ep = ek at *
  have S_e : (cellsOf ek).toArray.size = 32 := by simp [cellsOf_len, L_e]
  have O_e := cellsOf_one ek
  generalize zeros32 = Z at *
  obtain ⟨g4, hg4⟩ : ∃ q, q = w.heap.size := ⟨_, rfl⟩
  have B0 : Hid ((w.alloc (.cells Z 23)).heap[g4]? = some (.cells Z 23 (0, 0)) ∧ Ext w (w.alloc (.cells Z 23))) := by rw [hg4]; exact ⟨heap_alloc_new _ _, (Ext.refl w).alloc _⟩
  replace hg4 := Lib.hid hg4
  go_enter Tryd.func50, Tryd.ntmps50
  go_upto_region 1 with fail
  refine wp_gen (fun W => W.heap[g4]? = some (.cells Z 23 (0, 0)) ∧ Ext w W) B0.out ?_
  rw [← hg4.out]
  have wg4 : w.heap.size ≤ g4 := Nat.le_of_eq hg4.out.symm
  clear B0 hg4
  rintro w0 ⟨z4, x0⟩
  have s0 := SE.out w0 x0
  have c1 : w0.cell? ⟨g, 1, none⟩ = some (.map (some mb)) := s0.cb.cell rfl
  have z4l := heap_lt z4
  clear s0
  rcases LK.out w0 x0 with hit | ⟨hn, miss⟩
  · have K5 : Hid (((w0.alloc (.cells Z 23)).setRow w0.heap.size (cellsOf ek).toArray).heap[w0.heap.size]? = some (.cells (cellsOf ek).toArray 23 (0, 0)) ∧ ((w0.alloc (.cells Z 23)).setRow w0.heap.size (cellsOf ek).toArray).heap[g4]? = some (.cells Z 23 (0, 0)) ∧ Ext w ((w0.alloc (.cells Z 23)).setRow w0.heap.size (cellsOf ek).toArray)) :=
      ⟨setRow_heap _ _ _ _ _ _ (heap_alloc_new _ _), ((Ext.newRow w0 _ _).block _ z4l).trans z4, x0.trans (Ext.newRow _ _ _)⟩
    clear CR LK AD x0
    go_upto_region 2 with (first
      | (refine wpList_lookup_mp16 rfl _ _ rfl rfl rfl hit ?_; go_frame)
      | (refine wpList_store_row rfl 23 _ _ rfl w0.heap.size (cellsOf ek).toArray rfl rfl 23 Z (heap_alloc_new _ _) (by rw [S_e]; rfl) (by rw [S_e, S_Z]) O_e ?_; simp only [Act.put]))
    refine wp_gen (fun W => W.heap[w0.heap.size]? = some (.cells (cellsOf ek).toArray 23 (0, 0)) ∧ W.heap[g4]? = some (.cells Z 23 (0, 0)) ∧ Ext w W) K5.out ?_
    generalize w0.heap.size = g5 at *
    clear K5 hit c1 z4 w0
    rintro w1 ⟨k5, z4, x1⟩
    have F : Hid (SR (w1.setRow g4 (cellsOf ek).toArray) g mb q root ticks E ∧ w.grownBy (w1.setRow g4 (cellsOf ek).toArray) (some mb)) := by
      have x : Ext w (w1.setRow g4 (cellsOf ek).toArray) := below_setRow x1 wg4 _
      exact ⟨SE.out _ x, ⟨x.os, x.tape, x.output, x.size, fun i hi _ => x.block i hi⟩⟩
    clear SE x1
    go_wp2_with (first
      | ((with_reducible refine wpList_load_rowW (o := ⟨some 30, _, _, _, _, _⟩) ?_ 23 _ rfl g5 ?_ 23 (cellsOf ek).toArray (0, 0) _ ?_ Tryd.underlying23 ?_ ?_ ?_); (· rfl); (· rfl); (· exact k5); (· rfl); (· rw [S_e]; rfl); go_frame)
      | (refine wpList_store_row rfl 23 _ _ rfl g4 (cellsOf ek).toArray rfl rfl 23 Z z4 (by rw [S_e]; rfl) (by rw [S_e, S_Z]) O_e ?_; simp only [Act.put]))
    (try simp only [Exit.inBlock, Exit.then])
    refine bodyPost_ret (results_cell_row rfl _ _ g4 23 (cellsOf ek).toArray (0, 0) _ rfl (setRow_heap _ _ _ _ _ _ z4) rfl rfl (by rw [S_e]; rfl)) rfl ?_
    exact ⟨rfl, ⟨E, F.out.1, by omega⟩, F.out.2⟩
  · have K5 : Hid (((w0.alloc (.cells Z 23)).setRow w0.heap.size Z).heap[w0.heap.size]? = some (.cells Z 23 (0, 0)) ∧ ((w0.alloc (.cells Z 23)).setRow w0.heap.size Z).heap[g4]? = some (.cells Z 23 (0, 0)) ∧ Ext w ((w0.alloc (.cells Z 23)).setRow w0.heap.size Z)) :=
      ⟨setRow_heap _ _ _ _ _ _ (heap_alloc_new _ _), ((Ext.newRow w0 _ _).block _ z4l).trans z4, x0.trans (Ext.newRow _ _ _)⟩
    have w5 : w.heap.size ≤ w0.heap.size := x0.size
    clear LK x0
    go_upto_region 2 with (first
      | (refine wpList_lookup_mp16 rfl _ _ rfl rfl rfl miss ?_; go_frame)
      | (refine wpList_store_row rfl 23 _ _ rfl w0.heap.size Z rfl rfl 23 Z (heap_alloc_new _ _) (by rw [S_Z]; rfl) (by rw [S_Z]) O_Z ?_; simp only [Act.put]))
    refine wp_gen (fun W => W.heap[w0.heap.size]? = some (.cells Z 23 (0, 0)) ∧ W.heap[g4]? = some (.cells Z 23 (0, 0)) ∧ Ext w W) K5.out ?_
    generalize w0.heap.size = g5 at *
    clear K5 miss c1 z4 w0
    rintro w1 ⟨z5, z4, x1⟩
    have s1 := SE.out w1 x1
    have c2 : w1.cell? ⟨g, 2, none⟩ = some (.func (.func 39) #[] #[.pointer (some ⟨q, 0, none⟩)]) := s1.cb.cell rfl
    have C1 := Lib.hid (CR.out w1 x1)
    replace z5 := Lib.hid z5
    replace z4 := Lib.hid z4
    replace x1 := Lib.hid x1
    have g45 : g4 ≠ g5 := Nat.ne_of_lt z4l
    clear CR s1
    go_wp2_with fail
    refine C1.out.mono ?_
    rintro e w2 ⟨rfl, x2⟩
    have k5 : w2.heap[g5]? = some (.cells Z 23 (0, 0)) := (x2.block _ (heap_lt z5.out)).trans z5.out
    have k4 : w2.heap[g4]? = some (.cells Z 23 (0, 0)) := (x2.block _ (heap_lt z4.out)).trans z4.out
    have K6 : Hid ((w2.setRow g5 (cellsOf ek).toArray).heap[g5]? = some (.cells (cellsOf ek).toArray 23 (0, 0)) ∧ (w2.setRow g5 (cellsOf ek).toArray).heap[g4]? = some (.cells Z 23 (0, 0)) ∧ Ext w (w2.setRow g5 (cellsOf ek).toArray)) :=
      ⟨setRow_heap _ _ _ _ _ _ k5, (setRow_other _ _ _ _ g45).trans k4, below_setRow (x1.out.trans x2) w5 _⟩
    clear C1 x1 x2 z5 z4 k4 c2
    go_upto_region 4 with (refine wpList_store_row rfl 23 _ _ rfl g5 (cellsOf ek).toArray rfl rfl 23 Z k5 (by rw [S_e]; rfl) (by rw [S_e, S_Z]) O_e ?_; simp only [Act.put])
    refine wp_gen (fun W => W.heap[g5]? = some (.cells (cellsOf ek).toArray 23 (0, 0)) ∧ W.heap[g4]? = some (.cells Z 23 (0, 0)) ∧ Ext w W) K6.out ?_
    clear K6 k5 w2
    rintro w3 ⟨k5, z4, x3⟩
    have g5b : g5 ≠ mb := by omega
    have g4b : g4 ≠ mb := by omega
    have A3 := Lib.hid (AD.out w3.drew x3.drew hn)
    have T3 : Hid (∀ s, w3.drew.grownBy s (some mb) → s.cell? ⟨g, 1, none⟩ = some (.map (some mb)) ∧ s.heap[g5]? = some (.cells (cellsOf ek).toArray 23 (0, 0)) ∧ s.heap[g4]? = some (.cells Z 23 (0, 0)) ∧ w.grownBy s (some mb)) := fun s e => by
      have hb : ∀ i, i < w3.heap.size → i ≠ mb → s.heap[i]? = w3.heap[i]? := fun i hi hne => e.block i hi (fun q => hne (Option.some.inj q))
      have s3 := SE.out w3 x3
      refine ⟨(World.cell?_of_block (hb g s3.cb.lt gnb)).trans (s3.cb.cell rfl), (hb _ (heap_lt k5) g5b).trans k5, (hb _ (heap_lt z4) g4b).trans z4, ⟨e.os.trans x3.os, e.tape.trans x3.tape, e.output.trans x3.output, Nat.le_trans x3.size e.size, fun i hi hne => (e.block i (Nat.lt_of_lt_of_le hi x3.size) hne).trans (x3.block i hi)⟩⟩
    clear AD SE k5 z4 x3
    refine qgW mb [0, 1, 2, 3, 4, 5, 6] [6] ?_
    generalize w3.drew = W at *
    repeat ((first | refine qR _ (fun w' e => (T3.out w' e).1) ?_ | refine qS ?_); go_frame)
    refine qV rfl (fun w' => w'.heap[g5]? = some (.cells (cellsOf ek).toArray 23 (0, 0))) (fun w' e => (T3.out w' e).2.1) (.agg (cellsOf ek).toArray) (fun w' hF => exec_load_row rfl rfl hF rfl rfl (by rw [S_e]; rfl)) ?_
    go_frame
    refine qD fun K hK => ?_
    obtain ⟨w4, d1, d2, d3⟩ := A3.out
    refine wp_mapUpdate rfl rfl rfl rfl d1 ?_
    refine hK.out _ _ d3 ?_
    clear hK K
    try simp only [Act.put]
    repeat ((first | refine qR0 ?_ | refine qS ?_); go_frame)
    refine seq_done ?_
    obtain ⟨_, k5, z4, gr⟩ := T3.out w4 d3
    have F : Hid ((∃ E', SR (w4.setRow g4 (cellsOf ek).toArray) g mb q root ticks E' ∧ E'.length ≤ E.length + 1) ∧ w.grownBy (w4.setRow g4 (cellsOf ek).toArray) (some mb)) := by
      have g4g : g4 ≠ g := by omega
      have q4 : q ≠ g4 := by omega
      refine ⟨⟨_, d2.stay (setRow_other _ _ _ _ (fun z => g4g z.symm)) (setRow_other _ _ _ _ q4) (setRow_other _ _ _ _ (fun z => g4b z.symm)), by simp⟩, ?_⟩
      exact ⟨gr.os, gr.tape, gr.output, by simpa using gr.size, fun i hi hne => (setRow_other _ _ _ _ (by omega)).trans (gr.block i hi hne)⟩
    clear T3 A3 d1 d2 d3 gr
    go_wp2_with (first
      | ((with_reducible refine wpList_load_rowW (o := ⟨some 30, _, _, _, _, _⟩) ?_ 23 _ rfl g5 ?_ 23 (cellsOf ek).toArray (0, 0) _ ?_ Tryd.underlying23 ?_ ?_ ?_); (· rfl); (· rfl); (· exact k5); (· rfl); (· rw [S_e]; rfl); go_frame)
      | (refine wpList_store_row rfl 23 _ _ rfl g4 (cellsOf ek).toArray rfl rfl 23 Z z4 (by rw [S_e]; rfl) (by rw [S_e, S_Z]) O_e ?_; simp only [Act.put]))
    (try simp only [Exit.inBlock, Exit.then])
    refine bodyPost_ret (results_cell_row rfl _ _ g4 23 (cellsOf ek).toArray (0, 0) _ rfl (setRow_heap _ _ _ _ _ _ z4) rfl rfl (by rw [S_e]; rfl)) rfl ?_
    exact ⟨rfl, F.out.1, F.out.2⟩
end Go.Proofs.YtbnjmmefnjoofaaDoor
end

section
/-
  Worlds in which just some blocks turn. No conditions.
-/
namespace Go.Proofs.YtbnjmmefnjoofaaDoor
open Go.ChangeShapes Go.WideShapes Go.ChangeAt Go.RowKit Go.Deep

/-- Only blocks of p turn. -/
def Ot (p : Nat → Prop) (a b : World) : Prop := b.os = a.os ∧ b.tape = a.tape ∧ b.output = a.output ∧ a.heap.size ≤ b.heap.size ∧ ∀ i, i < a.heap.size → ¬ p i → b.heap[i]? = a.heap[i]?
section
variable {p q : Nat → Prop} {a b c : World}
theorem Ot.refl (p : Nat → Prop) (w : World) : Ot p w w := ⟨rfl, rfl, rfl, Nat.le_refl _, fun _ _ _ => rfl⟩
theorem Ot.trans (h : Ot p a b) (k : Ot p b c) : Ot p a c :=
  ⟨k.1.trans h.1, k.2.1.trans h.2.1, k.2.2.1.trans h.2.2.1, Nat.le_trans h.2.2.2.1 k.2.2.2.1, fun i hi hp => (k.2.2.2.2 i (Nat.lt_of_lt_of_le hi h.2.2.2.1) hp).trans (h.2.2.2.2 i hi hp)⟩
theorem Ot.mono (h : Ot p a b) (k : ∀ i, i < a.heap.size → p i → q i) : Ot q a b := ⟨h.1, h.2.1, h.2.2.1, h.2.2.2.1, fun i hi hn => h.2.2.2.2 i hi fun z => hn (k i hi z)⟩
theorem Ot.of_ext (h : Ext a b) : Ot p a b := ⟨h.os, h.tape, h.output, h.size, fun i hi _ => h.block i hi⟩
theorem Ot.of_two {g g' : Nat} (h : Two g g' a b) (h1 : p g) (h2 : p g') : Ot p a b := ⟨h.1, h.2.1, h.2.2.1, h.2.2.2.1, fun i hi hn => h.2.2.2.2 i hi (fun z => hn (z ▸ h1)) (fun z => hn (z ▸ h2))⟩
theorem Ot.of_grown {g : Nat} (h : a.grownBy b (some g)) (h1 : p g) : Ot p a b := ⟨h.os, h.tape, h.output, h.size, fun i hi hn => h.block i hi (fun z => hn (Option.some.inj z ▸ h1))⟩
theorem Ot.size (h : Ot p a b) : a.heap.size ≤ b.heap.size := h.2.2.2.1
theorem Ot.drew (h : Ot p a b) : Ot p a b.drew := h
theorem Ot.same {i : Nat} (h : Ot p a b) (hi : i < a.heap.size) (hp : ¬ p i) : b.heap[i]? = a.heap[i]? := h.2.2.2.2 i hi hp
theorem Ot.block {i : Nat} {o : Obj} (h : Ot p a b) (hi : a.heap[i]? = some o) (hp : ¬ p i) : b.heap[i]? = some o := (h.2.2.2.2 i (heap_lt hi) hp).trans hi
theorem Ot.ext {w0 : World} (h : Ext w0 a) (k : Ot p a b) (hp : ∀ i, p i → w0.heap.size ≤ i) : Ext w0 b :=
  Below.trans h ⟨k.1, k.2.1, k.2.2.1, k.2.2.2.1, fun i hi => k.2.2.2.2 i (Nat.lt_of_lt_of_le hi h.size) (fun z => by have := hp i z; omega)⟩
/-- What the call did to blocks that were new to it does not count. -/
theorem Ot.cell (w : World) {g : Nat} (o : Nat) (v : Value) (h : p g) : Ot p w (w.setCell ⟨g, o, none⟩ v) := ⟨rfl, rfl, rfl, by simp [World.setCell], fun i _ hn => Below.heap_setCell _ _ _ _ (fun z => hn (z ▸ h))⟩
theorem Ot.row (w : World) {g : Nat} (C : Array Value) (h : p g) : Ot p w (w.setRow g C) := ⟨rfl, rfl, rfl, by simp, fun i _ hn => setRow_other _ _ _ _ (fun z => hn (z ▸ h))⟩
theorem Ot.newRow (w : World) {g : Nat} {w2 : World} (h : Ot p w w2) (hg : w.heap.size ≤ g) (C : Array Value) : Ot p w (w2.setRow g C) := ⟨h.1, h.2.1, h.2.2.1, by simpa using h.2.2.2.1, fun i hi hn => (setRow_other _ _ _ _ (by omega)).trans (h.2.2.2.2 i hi hn)⟩
theorem Ot.newCell (w : World) {g : Nat} {w2 : World} (h : Ot p w w2) (hg : w.heap.size ≤ g) (o : Nat) (v : Value) : Ot p w (w2.setCell ⟨g, o, none⟩ v) := ⟨h.1, h.2.1, h.2.2.1, by simpa [World.setCell] using h.2.2.2.1, fun i hi hn => (Below.heap_setCell _ _ _ _ (fun z => by have z : i = g := z; omega)).trans (h.2.2.2.2 i hi hn)⟩
end
theorem cb_differ {w : World} {i j : Nat} {t t' : TypeId} {C D : List Value} (h : w.heap[i]? = some (.cells C.toArray t (0, 0))) (k : w.heap[j]? = some (.cells D.toArray t' (0, 0))) (ht : t ≠ t') : i ≠ j := by
  rintro rfl
  rw [h] at k
  injection k with k
  injection k with _ k
  exact ht k
end Go.Proofs.YtbnjmmefnjoofaaDoor
end
