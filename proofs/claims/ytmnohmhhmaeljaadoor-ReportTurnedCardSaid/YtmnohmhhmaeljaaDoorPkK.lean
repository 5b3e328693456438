import Derived.Test.YtmnohmhhmaeljaaDoorLowM
import Derived.Test.YtmnohmhhmaeljaaDoorStV
import Derived.Test.YtmnohmhhmaeljaaDoorMac
import Derived.Test.YtmnohmhhmaeljaaDoorBase
import Derived.Test.YtmnohmhhmaeljaaDoorLowB
import Derived.Maps.AppendAt
import Derived.Deep.RegionHeld3
import Derived.OwnWalk
import Derived.Deep.DeepMust
import Derived.Test.YtmnohmhhmaeljaaDoorSeq
section
/-
  Layer 16 as plain functions: tags, stamps, checks, bytes.
-/
namespace Go.Proofs.YtmnohmhhmaeljaaDoor
open Go.ChangeShapes Go.WideShapes Go.ChangeAt Go.RowKit Go.Deep
set_option maxRecDepth 100000

/-- The highest bytes first. -/
def hiB (n m : Nat) : List UInt8 := (lowL n m).reverse
theorem hiB_len (n m : Nat) : (hiB n m).length = m := by rw [hiB, List.length_reverse, lowL_len]
theorem hiB_one (n : Nat) : hiB n 1 = [UInt8.ofNat n] := by simp [hiB, lowL]
/-- What the tag covers. -/
def toldL (f t tm : Nat) (cm : List UInt8) : List UInt8 := ((hiB f 1 ++ hiB t 1) ++ hiB tm 4) ++ cm
theorem toldL_len {f t tm : Nat} {cm : List UInt8} (h : cm.length = 32) : (toldL f t tm cm).length = 38 := by simp [toldL, hiB_len, h]
/-- The key of an epoch. -/
def ekL (root : List UInt8) (ep : Nat) : List UInt8 := macL root (hiB ep 4)
def tagL16 (root : List UInt8) (ep f t tm : Nat) (cm : List UInt8) : List UInt8 := macL (ekL root ep) (toldL f t tm cm)
theorem tagL16_len (root : List UInt8) (ep f t tm : Nat) (cm : List UInt8) : (tagL16 root ep f t tm cm).length = 32 := macL_len _ _
/-- A stamp's data. -/
structure Sm where
  ep : Int
  f : Int
  t : Int
  tm : Int
  cm : List UInt8
  tg : List UInt8
def Sm.C (s : Sm) : List Value := stC s.ep s.f s.t s.tm s.cm s.tg
def Sm.ok (s : Sm) : Prop := s.cm.length = 32 ∧ s.tg.length = 32
def Sm.valid (s : Sm) : Bool := okS s.ep s.f s.t s.tm
theorem Sm.C_len {s : Sm} (h : s.ok) : s.C.length = 68 := stC_len h.1 h.2 _ _ _ _
theorem Sm.one (s : Sm) : ∀ v ∈ s.C, v.oneCell' = true := one_st
def zSm : Sm := ⟨0, 0, 0, 0, List.replicate 32 0, List.replicate 32 0⟩
theorem zSm_ok : zSm.ok := ⟨rfl, rfl⟩
theorem okS_in {ep f t tm : Int} (h : okS ep f t tm = true) : (0 ≤ ep ∧ ep ≤ 1000000) ∧ (0 ≤ f ∧ f ≤ 7) ∧ (0 ≤ t ∧ t ≤ 7) ∧ (0 ≤ tm ∧ tm ≤ 1000000) := by
  unfold okS upB at h
  simp only [Bool.and_eq_true, decide_eq_true_eq] at h
  omega
/-- A stamp that may be, by numbers that are not below nought. -/
theorem Sm.nat {s : Sm} (h : s.valid = true) : ∃ (ep f t tm : Nat), s = ⟨ep, f, t, tm, s.cm, s.tg⟩ ∧ ep ≤ 1000000 ∧ f ≤ 7 ∧ t ≤ 7 ∧ tm ≤ 1000000 := by
  obtain ⟨h1, h2, h3, h4⟩ := okS_in h
  refine ⟨s.ep.toNat, s.f.toNat, s.t.toNat, s.tm.toNat, ?_, by omega, by omega, by omega, by omega⟩
  obtain ⟨ep, f, t, tm, cm, tg⟩ := s
  dsimp only at h1 h2 h3 h4 ⊢
  rw [show ((ep.toNat : Nat) : Int) = ep by omega, show ((f.toNat : Nat) : Int) = f by omega, show ((t.toNat : Nat) : Int) = t by omega, show ((tm.toNat : Nat) : Int) = tm by omega]
/-- The stamp of an envelope at a time. -/
def mkOk (f t now : Int) : Bool := (upB now 1000000 && upB f 7) && upB t 7
def mkS (root : List UInt8) (ticks : Nat) (f t : Int) (cm : List UInt8) (now : Int) : Sm :=
  if mkOk f t now then ⟨((now.toNat / ticks : Nat) : Int), f, t, now, cm, tagL16 root (now.toNat / ticks) f.toNat t.toNat now.toNat cm⟩ else zSm
def mkE (f t now : Int) : Int := if mkOk f t now then 0 else 1
theorem mkS_ok (root : List UInt8) (ticks : Nat) (f t : Int) {cm : List UInt8} (now : Int) (h : cm.length = 32) : (mkS root ticks f t cm now).ok := by
  unfold mkS
  split
  · exact ⟨h, tagL16_len _ _ _ _ _ _⟩
  · exact zSm_ok
/-- Is it that relay's? -/
def chkE (root : List UInt8) (ticks : Nat) (s : Sm) (now : Int) : Int :=
  if s.valid && upB now 1000000 then
    (if s.ep.toNat = s.tm.toNat / ticks ∧ tagL16 root s.ep.toNat s.f.toNat s.t.toNat s.tm.toNat s.cm = s.tg then (if now < s.tm ∨ s.tm + 50 < now then 5 else 0) else 4) else 1
def bytesS (s : Sm) : List UInt8 := if s.valid then (hiB s.ep.toNat 4 ++ toldL s.f.toNat s.t.toNat s.tm.toNat s.cm) ++ s.tg else []
def bytesE (s : Sm) : Int := if s.valid then 0 else 1
theorem bytesS_len {s : Sm} (ok : s.ok) (h : s.valid = true) : (bytesS s).length = 74 := by
  unfold bytesS
  rw [if_pos h]
  simp [hiB_len, toldL_len ok.1, ok.2]
/-- The stamp of bytes, whether it may be or not. -/
def rdS (b : List UInt8) : Sm := ⟨(numN b 4 : Nat), (numN (b.drop 4) 1 : Nat), (numN (b.drop 5) 1 : Nat), (numN (b.drop 6) 4 : Nat), (b.drop 10).take 32, (b.drop 42).take 32⟩
def readE16 (b : List UInt8) : Int := if b.length < 74 then 3 else if 74 < b.length then 2 else if (rdS b).valid then 0 else 2
def readS16 (b : List UInt8) : Sm := if readE16 b = 0 then rdS b else zSm
theorem rdS_ok {b : List UInt8} (h : 74 ≤ b.length) : (rdS b).ok := ⟨by simp [rdS]; omega, by simp [rdS]; omega⟩
theorem readS_ok (b : List UInt8) : (readS16 b).ok := by
  unfold readS16
  split
  · rename_i h
    refine rdS_ok ?_
    unfold readE16 at h
    split at h
    · cases h
    · omega
  · exact zSm_ok
theorem cat_eq {a b c d : List UInt8} (h : a.length = c.length) : a ++ b = c ++ d ↔ a = c ∧ b = d := by
  constructor
  · intro q
    exact List.append_inj q h
  · rintro ⟨rfl, rfl⟩; rfl
/-- Bytes of 74 are the bytes of the stamp that they are read as. -/
theorem bytes_rdS {b : List UInt8} (h : b.length = 74) (hv : (rdS b).valid = true) : bytesS (rdS b) = b := by
  unfold bytesS
  rw [if_pos hv]
  show (hiB (numN b 4 : Int).toNat 4 ++ toldL (numN (b.drop 4) 1 : Int).toNat (numN (b.drop 5) 1 : Int).toNat (numN (b.drop 6) 4 : Int).toNat ((b.drop 10).take 32)) ++ (b.drop 42).take 32 = b
  simp only [Int.toNat_natCast]
  unfold toldL hiB
  rw [high_numN (by omega), high_numN (by rw [List.length_drop]; omega), high_numN (by rw [List.length_drop]; omega), high_numN (by rw [List.length_drop]; omega)]
  have e0 : b = b.take 4 ++ b.drop 4 := (List.take_append_drop 4 b).symm
  have e1 : b.drop 4 = (b.drop 4).take 1 ++ b.drop 5 := by rw [show b.drop 5 = (b.drop 4).drop 1 by rw [List.drop_drop]]; exact (List.take_append_drop 1 _).symm
  have e2 : b.drop 5 = (b.drop 5).take 1 ++ b.drop 6 := by rw [show b.drop 6 = (b.drop 5).drop 1 by rw [List.drop_drop]]; exact (List.take_append_drop 1 _).symm
  have e3 : b.drop 6 = (b.drop 6).take 4 ++ b.drop 10 := by rw [show b.drop 10 = (b.drop 6).drop 4 by rw [List.drop_drop]]; exact (List.take_append_drop 4 _).symm
  have e4 : b.drop 10 = (b.drop 10).take 32 ++ b.drop 42 := by rw [show b.drop 42 = (b.drop 10).drop 32 by rw [List.drop_drop]]; exact (List.take_append_drop 32 _).symm
  have e5 : (b.drop 42).take 32 = b.drop 42 := List.take_of_length_le (by rw [List.length_drop]; omega)
  rw [e5]
  conv => rhs; rw [e0, e1, e2, e3, e4]
  simp only [List.append_assoc]
/-- The bytes of a stamp are read as it. -/
theorem rdS_bytes {s : Sm} (ok : s.ok) (hv : s.valid = true) : rdS (bytesS s) = s := by
  obtain ⟨ep, f, t, tm, hs, h1, h2, h3, h4⟩ := Sm.nat hv
  obtain ⟨lc, lg⟩ := ok
  generalize s.cm = cm at *
  generalize s.tg = tg at *
  subst hs
  have e : bytesS ⟨ep, f, t, tm, cm, tg⟩ = hiB ep 4 ++ (hiB f 1 ++ (hiB t 1 ++ (hiB tm 4 ++ (cm ++ tg)))) := by
    unfold bytesS
    rw [if_pos hv]
    show (hiB (ep : Int).toNat 4 ++ toldL (f : Int).toNat (t : Int).toNat (tm : Int).toNat cm) ++ tg = _
    simp only [Int.toNat_natCast, toldL, List.append_assoc]
  rw [e]
  have n0 : numN (hiB ep 4 ++ (hiB f 1 ++ (hiB t 1 ++ (hiB tm 4 ++ (cm ++ tg))))) 4 = ep := numN_high (by omega)
  have d4 : (hiB ep 4 ++ (hiB f 1 ++ (hiB t 1 ++ (hiB tm 4 ++ (cm ++ tg))))).drop 4 = hiB f 1 ++ (hiB t 1 ++ (hiB tm 4 ++ (cm ++ tg))) := List.drop_left' (hiB_len _ _)
  have d5 : (hiB ep 4 ++ (hiB f 1 ++ (hiB t 1 ++ (hiB tm 4 ++ (cm ++ tg))))).drop 5 = hiB t 1 ++ (hiB tm 4 ++ (cm ++ tg)) := by rw [show (5 : Nat) = 4 + 1 from rfl, ← List.drop_drop, d4]; exact List.drop_left' (hiB_len _ _)
  have d6 : (hiB ep 4 ++ (hiB f 1 ++ (hiB t 1 ++ (hiB tm 4 ++ (cm ++ tg))))).drop 6 = hiB tm 4 ++ (cm ++ tg) := by rw [show (6 : Nat) = 5 + 1 from rfl, ← List.drop_drop, d5]; exact List.drop_left' (hiB_len _ _)
  have d10 : (hiB ep 4 ++ (hiB f 1 ++ (hiB t 1 ++ (hiB tm 4 ++ (cm ++ tg))))).drop 10 = cm ++ tg := by rw [show (10 : Nat) = 6 + 4 from rfl, ← List.drop_drop, d6]; exact List.drop_left' (hiB_len _ _)
  have d42 : (hiB ep 4 ++ (hiB f 1 ++ (hiB t 1 ++ (hiB tm 4 ++ (cm ++ tg))))).drop 42 = tg := by rw [show (42 : Nat) = 10 + 32 from rfl, ← List.drop_drop, d10]; exact List.drop_left' lc
  unfold rdS
  rw [n0, d4, d5, d6, d10, d42]
  have n1 : numN (hiB f 1 ++ (hiB t 1 ++ (hiB tm 4 ++ (cm ++ tg)))) 1 = f := numN_high (by omega)
  have n2 : numN (hiB t 1 ++ (hiB tm 4 ++ (cm ++ tg))) 1 = t := numN_high (by omega)
  have n3 : numN (hiB tm 4 ++ (cm ++ tg)) 4 = tm := numN_high (by omega)
  rw [n1, n2, n3, List.take_left' lc, List.take_of_length_le (by omega)]
theorem read_bytes {s : Sm} (ok : s.ok) (hv : s.valid = true) : readE16 (bytesS s) = 0 ∧ readS16 (bytesS s) = s := by
  have hl := bytesS_len ok hv
  have he : readE16 (bytesS s) = 0 := by
    unfold readE16
    rw [if_neg (by omega), if_neg (by omega), rdS_bytes ok hv, if_pos hv]
  exact ⟨he, by unfold readS16; rw [if_pos he, rdS_bytes ok hv]⟩
theorem bytes_read {b : List UInt8} (h : readE16 b = 0) : bytesE (readS16 b) = 0 ∧ bytesS (readS16 b) = b ∧ (readS16 b).valid = true := by
  have hr : readS16 b = rdS b := by unfold readS16; rw [if_pos h]
  unfold readE16 at h
  split at h
  · cases h
  split at h
  · cases h
  split at h
  · rename_i h1 h2 h3
    rw [hr]
    exact ⟨by unfold bytesE; rw [if_pos h3], bytes_rdS (by omega) h3, h3⟩
  · cases h
end Go.Proofs.YtmnohmhhmaeljaaDoor
end

section
/-
  The lowest byte of a number. No conditions.
-/
namespace Go.Proofs.YtmnohmhhmaeljaaDoor
open Go.ChangeShapes Go.WideShapes Go.ChangeAt Go.RowKit Go.Deep

/-- The lowest byte of a number. -/
def u8I (z : Int) : UInt8 := UInt8.ofNat (z % 256).toNat
theorem u8I_wrap (z : Int) : IntKind.u8.wrap z = ((u8I z).toNat : Int) := by
  unfold u8I
  rw [IntKind.wrap_u8, UInt8.toNat_ofNat']
  omega
end Go.Proofs.YtmnohmhhmaeljaaDoor
end

section
/-
  octets.High (over LowB): for seats without layer 1's laws.
-/
namespace Go.Proofs.YtmnohmhhmaeljaaDoor
open Go.ChangeShapes Go.WideShapes Go.ChangeAt Go.RowKit Go.Deep

theorem bt_reverse {xs : List UInt8} {k : Nat} (hk : k < xs.length) : bt xs.reverse k = bt xs (xs.length - 1 - k) := by
  unfold bt
  simp [List.getD, hk, List.getElem?_reverse, show xs.length - 1 - k < xs.length by omega]

/-- A row of bytes of the call's own that is filled from its end on. -/
def FillBack (w wr : World) (n k : Nat) (f : Nat → Nat) : Prop := Ext w wr ∧ wr.rowIs w.heap.size 5 n (fun i => if n ≤ i + k then .int .u8 (f i : Int) else .int .u8 0)
theorem FillBack.step {w wr : World} {n k : Nat} {f : Nat → Nat} (h : FillBack w wr n k f) {j : Nat} (hj : j + k + 1 = n) {u : Int} (hu : u = (f j : Int)) :
    FillBack w (wr.setCell ⟨w.heap.size, j, none⟩ (.int .u8 u)) n (k + 1) f := by
  subst hu
  refine ⟨h.1.setCell (Nat.le_refl _) _, (h.2.set j _).congr fun i _ => ?_⟩
  by_cases e : i = j
  · subst e; simp only [if_true]; rw [if_pos (by omega)]
  · simp only [if_neg e]
    by_cases hi : n ≤ i + k
    · rw [if_pos hi, if_pos (by omega)]
    · rw [if_neg hi, if_neg (by omega)]

set_option maxHeartbeats 400000 in
theorem reversed_calls {A : Option Addr} {n c : Nat} {xs : List UInt8} {w : World} (h : Bs w A n c xs) (hm : n ≤ 281474976710656) :
    Calls Tryd.prog 90 #[.slice A n c] w (RetBs xs.reverse w) := by
  have h1 := h.le
  have h2 := h.cap
  have hmk := make8 n hm
  go_enter Tryd.func90, Tryd.ntmps90
  go_wp2
  clear hmk
  go_loopw [10] (fun i wr => ∃ k : Nat, k ≤ n ∧ i = .int .i64 k ∧ FillBack w wr n k (fun j => bt xs (n - 1 - j))) (fun i _ => n - (intOf i).toNat)
  case atStart => exact ⟨0, Nat.zero_le _, rfl, (Ext.refl w).alloc _, (World.rowIs_made w _ n _).congr fun i hi => by rw [if_neg (by omega)]⟩
  case round =>
    obtain ⟨k, hk, rfl, hf⟩ := hrel
    by_cases hlt : k < n
    · obtain ⟨b, off, rfl, hb, hc⟩ := h.pos (by omega)
      have g1 := (hf.1.cell (p := ⟨b, off + k, none⟩) hb).trans (hc k hlt)
      have g3 := hf.2.cell (i := n - 1 - k) (by omega)
      rw [if_neg (by omega)] at g3
      have g4 := hf.2.frozen (n - 1 - k)
      clear hc
      go_wp2
      go_roundw
      case rel =>
        exact ⟨k + 1, by omega, by go_num, hf.step (by omega) (by rw [show n - 1 - (n - 1 - k) = k by omega])⟩
      case measure => simp [intOf]; omega
    · obtain rfl : k = n := by omega
      go_wp2
      go_ret
      refine ⟨_, _, _, rfl, ?_, hf.1⟩
      refine ⟨by rw [List.length_reverse, h.len], Nat.le_refl _, by unfold maxLen; omega, fun _ => ⟨w.heap.size, 0, rfl, hf.2.lt, fun j hj => ?_⟩⟩
      rw [Nat.zero_add, hf.2.cell hj, if_pos (by omega), bt_reverse (by rw [h.len]; exact hj), h.len]

set_option maxHeartbeats 400000 in
theorem high_calls {n m : Nat} {many : Int} {w : World} (hn : n < 18446744073709551616) (h1 : 0 ≤ many) (h2 : many ≤ 9223372036854775807) (hm8 : m ≤ 8) (hM : (if (8 : Int) < many then 8 else many) = (m : Int)) :
    Calls Tryd.prog 45 #[.int .u64 (n : Int), .int .i64 many] w (RetBs (lowL n m).reverse w) := by
  have hM' := Lib.hid hM
  clear hM
  go_enter Tryd.func45, Tryd.ntmps45
  go_wp2_with fail
  refine (low_calls hn h1 h2 hm8 hM'.out).mono ?_
  rintro e w1 ⟨A, k, c, rfl, hb, he⟩
  go_wp2_with fail
  have hk : k ≤ 8 := by have := hb.len; rw [lowL_len] at this; omega
  refine (reversed_calls hb (by omega)).mono ?_
  rintro e w2 ⟨A, k, c, rfl, hb2, he2⟩
  go_wp2_with fail
  go_ret
  exact ⟨_, _, _, rfl, hb2, he.trans he2⟩
end Go.Proofs.YtmnohmhhmaeljaaDoor
end

section
/-
  A row of bytes of the call's own that is appended to ('Own'); what append does with it. No conditions.
-/
namespace Go.Proofs.YtmnohmhhmaeljaaDoor
open Go.ChangeShapes Go.WideShapes Go.ChangeAt Go.RowKit Go.Deep
set_option maxRecDepth 100000

def u8v (x : UInt8) : Value := .int .u8 (x.toNat : Int)
theorem u8v_bt {xs : List UInt8} {j : Nat} (h : j < xs.length) : (xs.map u8v)[j]? = some (.int .u8 (bt xs j : Int)) := by simp [u8v, bt, List.getD, h]

/-- The slice '.slice A n c' is the call's own row (in a block from B on), and holds xs. -/
def Own (B : Nat) (w : World) (A : Option Addr) (n c : Nat) (xs : List UInt8) : Prop := w.ownsRow B 5 1 (.slice A n c) n (xs.map u8v)

section
variable {w w' : World} {B : Nat} {A : Option Addr} {n c : Nat} {xs : List UInt8}
theorem Own.nil (B : Nat) (w : World) : Own B w none 0 0 [] := World.ownsRow_nil w B _ 1
theorem Own.made (w : World) (B cap : Nat) (hB : B ≤ w.heap.size) (hm : cap ≤ 281474976710656) : Own B (w.alloc (.cells (madeCells #[.int .u8 0] cap) 5)) (some ⟨w.heap.size, 0, none⟩) 0 cap [] :=
  World.ownsRow_made w _ cap hB (by unfold maxLen; omega) (by rw [size_madeCells, Nat.mul_one])
theorem Own.alloc (h : Own B w A n c xs) (o : Obj) : Own B (w.alloc o) A n c xs := World.ownsRow.alloc h o
theorem Own.drew (h : Own B w A n c xs) : Own B w.drew A n c xs := h
theorem Own.len (h : Own B w A n c xs) : xs.length = n := by simpa using h.1
theorem Own.bs (h : Own B w A n c xs) : Bs w A n c xs := by
  have hl := h.len
  rcases h.2 with ⟨hv, hn⟩ | ⟨g, cap, cur, hv, hb, hg, hnc, hcm, hcs, htk⟩
  · injection hv with h1 h2 h3
    subst h1 h2 h3
    exact ⟨hl, Nat.le_refl _, Nat.zero_le _, fun h => absurd h (by omega)⟩
  · injection hv with h1 h2 h3
    subst h1 h3
    refine ⟨hl, hnc, hcm, fun h0 => ⟨g, 0, rfl, ?_, fun j hj => ?_⟩⟩
    · rcases Nat.lt_or_ge g w.heap.size with h | h
      · exact h
      · rw [Array.getElem?_eq_none h] at hg; cases hg
    · rw [Nat.zero_add]
      have e : (xs.map u8v)[j]? = cur[j]? := by
        rw [← htk, List.getElem?_take, if_pos (by omega), Array.getElem?_toList]
      rw [u8v_bt (by omega)] at e
      simp [World.cell?, hg, ← e]
theorem Own.ext (h : Own B w A n c xs) (he : Ext w w') : Own B w' A n c xs := by
  refine ⟨h.1, ?_⟩
  rcases h.2 with h | ⟨g, cap, cur, hv, hb, hg, r⟩
  · exact .inl h
  · exact .inr ⟨g, cap, cur, hv, hb, (he.block g (by
      rcases Nat.lt_or_ge g w.heap.size with h | h
      · exact h
      · rw [Array.getElem?_eq_none h] at hg; cases hg)).trans hg, r⟩
theorem Own.ge (h : Own B w A n c xs) : ∀ g, Value.ownBlock (.slice A n c) = some g → B ≤ g := fun g hg => (World.ownsRow.lt h g hg).1
theorem Own.kept {row : Option Nat} (h : Own B w A n c xs) (hg : w.grownBy w' row) (hne : Value.ownBlock (.slice A n c) = none ∨ Value.ownBlock (.slice A n c) ≠ row) : Own B w' A n c xs := World.ownsRow.kept h hg hne
end

theorem Own.empty (w : World) (B : Nat) (hB : B ≤ w.heap.size) : Own B (w.alloc (.cells #[] 5)) (some ⟨w.heap.size, 0, none⟩) 0 0 [] :=
  World.ownsRow_lit (e := 5) (size := 1) w #[] 0 hB (Nat.zero_le _) rfl

theorem make0 (n : Nat) (hn : n ≤ 281474976710656) (w : World) :
    (Instr.makeSlice 22 (.int .i64 0) (.int .i64 (n : Int))).run Tryd.prog w = .ok (.slice (some ⟨w.heap.size, 0, none⟩) 0 n) (w.alloc (.cells (madeCells #[.int .u8 0] n) 5)) := by
  obtain ⟨i, hi, hz0, hz1, hz2⟩ := info_parts info8
  have h := run_make (P := Tryd.prog) w 22 5 i (.int .u8 0) Tryd.underlying22 hi hz0 .i64 .i64 0 (n : Int) (by omega) (by omega) (by rw [hz2]; omega) (by omega)
  simpa [hz1, Value.cells] using h

/-- 'append(v, s...)' on a row of the call's own. -/
theorem append_bs {w : World} {B : Nat} {A A' : Option Addr} {n c m c' : Nat} {xs ys : List UInt8} (ty : TypeId) (h : Own B w A n c xs) (hr : Bs w A' m c' ys) (hm : n + m ≤ 140737488355328) (hB : B ≤ w.heap.size) :
    ∃ A'' c'' w', (Builtin.append_ #[22, 22] ty #[.slice A n c, .slice A' m c']).run Tryd.prog w = .ok (.slice A'' (n + m) c'') w' ∧ Own B w' A'' (n + m) c'' (xs ++ ys) ∧ w.grownBy w' (Value.ownBlock (.slice A n c)) ∧
      (Value.ownBlock (.slice A'' (n + m) c'') = Value.ownBlock (.slice A n c) ∨ Value.ownBlock (.slice A'' (n + m) c'') = some w.heap.size) := by
  obtain ⟨i, hi, hz0, hz1, hz2⟩ := info_parts info8
  have form : ∀ (v' : Value) (w' : World), w'.ownsRow B 5 1 v' (n + m) (xs.map u8v ++ ys.map u8v) → ∃ A'' c'', v' = .slice A'' (n + m) c'' ∧ Own B w' A'' (n + m) c'' (xs ++ ys) := by
    intro v' w' ho
    rcases ho.2 with ⟨hv, hn⟩ | ⟨g, cap, cur, hv, _⟩
    · refine ⟨none, 0, by rw [hv, hn], ?_⟩
      rw [hv] at ho
      unfold Own
      rw [List.map_append]
      rw [show (Value.slice none (n + m) 0) = .slice none 0 0 by rw [hn]]
      exact ho
    · refine ⟨_, _, hv, ?_⟩
      rw [hv] at ho
      unfold Own
      rw [List.map_append]
      exact ho
  rcases A' with _ | a
  · have hm0 : m = 0 := by
      rcases Nat.eq_zero_or_pos m with h0 | h0
      · exact h0
      · obtain ⟨b, off, e, _⟩ := hr.pos h0
        cases e
    subst hm0
    have hy := hr.zero
    subst hy
    refine ⟨A, c, w, ?_, by simpa using h, ⟨rfl, rfl, rfl, Nat.le_refl _, fun _ _ _ => rfl⟩, .inl rfl⟩
    rcases h.2 with ⟨hv, hn⟩ | ⟨g, cap, cur, hv, _, _, hnc, _⟩
    · rw [hv]
      subst hn
      injection hv with _ _ h3
      subst h3
      simp [Builtin.append_, run_underlying Tryd.underlying22, sizeOf, typeInfo, hi, Builtin.lenOf, Builtin.firstCells]
      exact Eq.symm ‹A = none›
    · rw [hv]
      injection hv with _ _ h3
      subst h3
      simp [Builtin.append_, run_underlying Tryd.underlying22, sizeOf, typeInfo, hi, Builtin.lenOf, Builtin.firstCells, hnc, storeCells]
      exact Eq.symm ‹A = some _›
  · obtain ⟨v', w', hrun, ho, hg, _, hown⟩ := run_append_own_at (P := Tryd.prog) w B 22 ty 5 i (.int .u8 0) 1 1 Tryd.underlying22 hi hz0 hz1 hz2 rfl (by decide) (.slice A n c) n (xs.map u8v) h a m c' (ys.map u8v)
      (by rw [List.length_map, hr.len, Nat.mul_one]) (fun j u hu => by
        have hj : j < ys.length := by
          rcases Nat.lt_or_ge j ys.length with h | h
          · exact h
          · simp [h] at hu
        obtain ⟨b, off, e, hb, hc⟩ := hr.pos (by have := hr.len; omega)
        injection e with e
        subst e
        have hplain : (⟨b, off, none⟩ : Addr).add j = ⟨b, off + j, none⟩ := by unfold Addr.add; split <;> simp_all
        rw [hplain, hc j (by rw [← hr.len]; exact hj), ← u8v_bt hj, hu])
      (fun u hu => by
        obtain ⟨x, _, rfl⟩ := List.mem_map.1 hu
        rfl) (by unfold maxLen; omega) (by omega) hB
    obtain ⟨A'', c'', rfl, ho'⟩ := form v' w' ho
    exact ⟨A'', c'', w', hrun, ho', hg, hown⟩

/-- The same as a law for a region's step. -/
theorem wp_append_bs {w : World} {o : Oper} {a : Act} {K : Act → World → Prop} {Q : Exit → Act → World → Prop} {B : Nat} {A A' : Option Addr} {n c m c' : Nat} {xs ys : List UInt8} {s x : Operand}
    (ho : o.op = .call { callee := .builtin .append, args := #[s, x], argTypes := #[22, 22] }) (hs : a.eval s = .slice A n c) (hx : a.eval x = .slice A' m c')
    (h : Own B w A n c xs) (hr : Bs w A' m c' ys) (hm : n + m ≤ 140737488355328) (hB : B ≤ w.heap.size)
    (hK : ∀ A'' c'' w', Own B w' A'' (n + m) c'' (xs ++ ys) → w.grownBy w' (Value.ownBlock (.slice A n c)) → Below B w w' → K (a.put o.dst (.slice A'' (n + m) c'')) w') : o.wp Tryd.prog a w K Q := by
  obtain ⟨A'', c'', w', hrun, h2, h3, h4⟩ := append_bs o.type h hr hm hB
  unfold Oper.wp execOp
  simp only [ho, resolve, invoke, builtin, Sem.run_bind, Sem.run_pure, Result.andThen_ok, List.map_toArray, List.map_cons, List.map_nil, hs, hx, hrun]
  exact hK A'' c'' w' h2 h3 ((Below.refl B w).grown h3 hB h.ge)

/-- .. and for a plain list of operations. -/
theorem wpList_append_bs {w : World} {ops : Array Oper} {rest : List Oper} {o : Oper} {a : Act} {Q : Exit → Act → World → Prop} (hgd : o.guard = none) {B : Nat} {A A' : Option Addr} {n c m c' : Nat} {xs ys : List UInt8} {s x : Operand}
    (ho : o.op = .call { callee := .builtin .append, args := #[s, x], argTypes := #[22, 22] }) (hs : a.eval s = .slice A n c) (hx : a.eval x = .slice A' m c')
    (h : Own B w A n c xs) (hr : Bs w A' m c' ys) (hm : n + m ≤ 140737488355328) (hB : B ≤ w.heap.size)
    (hK : ∀ A'' c'' w', Own B w' A'' (n + m) c'' (xs ++ ys) → w.grownBy w' (Value.ownBlock (.slice A n c)) → Below B w w' → wpList Tryd.prog ops Q rest (a.put o.dst (.slice A'' (n + m) c'')) w') : wpList Tryd.prog ops Q (o :: rest) a w :=
  wpList_plain hgd fun _ hK' => wp_append_bs ho hs hx h hr hm hB fun A'' c'' w' h2 h3 h4 => hK' _ _ (hK A'' c'' w' h2 h3 h4)
end Go.Proofs.YtmnohmhhmaeljaaDoor
end

section
/-
  Slices of slices of bytes (Rw).
-/
namespace Go.Proofs.YtmnohmhhmaeljaaDoor
open Go.ChangeShapes Go.WideShapes Go.ChangeAt Go.RowKit Go.Deep

/-- The slice '.slice A n c' reads as the rows l. -/
def Rw (w : World) (A : Option Addr) (n c : Nat) (l : List (List UInt8)) : Prop :=
  l.length = n ∧ n ≤ c ∧ c ≤ maxLen ∧ (0 < n → ∃ b off, A = some ⟨b, off, none⟩ ∧ b < w.heap.size ∧ ∀ j, j < n → ∃ A' n' c', w.cell? ⟨b, off + j, none⟩ = some (.slice A' n' c') ∧ Bs w A' n' c' (l.getD j []))

section
variable {w w' : World} {A : Option Addr} {n c : Nat} {l : List (List UInt8)}
theorem Rw.len (h : Rw w A n c l) : l.length = n := h.1
theorem Rw.le (h : Rw w A n c l) : n ≤ c := h.2.1
theorem Rw.cap (h : Rw w A n c l) : c ≤ 9223372036854775807 := h.2.2.1
theorem Rw.nil (w : World) : Rw w none 0 0 [] := ⟨rfl, Nat.le_refl _, Nat.zero_le _, fun h => absurd h (by omega)⟩
theorem Rw.pos (h : Rw w A n c l) (hn : 0 < n) : ∃ b off, A = some ⟨b, off, none⟩ ∧ b < w.heap.size ∧ ∀ j, j < n → ∃ A' n' c', w.cell? ⟨b, off + j, none⟩ = some (.slice A' n' c') ∧ Bs w A' n' c' (l.getD j []) := h.2.2.2 hn
theorem Rw.ext (h : Rw w A n c l) (he : Ext w w') : Rw w' A n c l :=
  ⟨h.1, h.2.1, h.2.2.1, fun hn => by
    obtain ⟨b, off, e, hb, hc⟩ := h.2.2.2 hn
    refine ⟨b, off, e, Nat.lt_of_lt_of_le hb he.size, fun j hj => ?_⟩
    obtain ⟨A', n', c', h1, h2⟩ := hc j hj
    exact ⟨A', n', c', (he.cell hb).trans h1, h2.ext he⟩⟩
end

end Go.Proofs.YtmnohmhhmaeljaaDoor
end

section
/-
  octets.Join: for seats without layer 1's laws.
-/
namespace Go.Proofs.YtmnohmhhmaeljaaDoor
open Go.ChangeShapes Go.WideShapes Go.ChangeAt Go.RowKit Go.Deep

/-- A row with its length ahead. -/
def row4 (x : List UInt8) : List UInt8 := (lowL x.length 4).reverse ++ x
def joinL (l : List (List UInt8)) : List UInt8 := l.flatMap row4
theorem row4_len (x : List UInt8) : (row4 x).length = 4 + x.length := by simp [row4, lowL_len]
theorem joinL_snoc {l : List (List UInt8)} {k : Nat} (h : k < l.length) : joinL (l.take (k + 1)) = joinL (l.take k) ++ row4 (l.getD k []) := by
  unfold joinL
  rw [List.take_succ_eq_append_getElem h, List.flatMap_append]
  simp [List.getD, h]
theorem joinL_len_snoc {l : List (List UInt8)} {k : Nat} (h : k < l.length) : (joinL (l.take (k + 1))).length = (joinL (l.take k)).length + (4 + (l.getD k []).length) := by
  rw [joinL_snoc h, List.length_append, row4_len]
theorem joinL_le (l : List (List UInt8)) (k : Nat) : (joinL (l.take k)).length ≤ (joinL l).length := by
  have : joinL l = joinL (l.take k) ++ joinL (l.drop k) := by unfold joinL; rw [← List.flatMap_append, List.take_append_drop]
  rw [this, List.length_append]
  omega
/-- How many bytes k rows have. -/
def sizeAt (l : List (List UInt8)) (k : Nat) : Nat := (joinL (l.take k)).length


set_option maxHeartbeats 1000000 in
theorem join_calls {A : Option Addr} {n c : Nat} {l : List (List UInt8)} {w : World} (h : Rw w A n c l) (hm : (joinL l).length ≤ 100000000) :
    Calls Tryd.prog 46 #[.slice A n c] w (RetBs (joinL l) w) := by
  have h1 := h.le
  have h2 := h.cap
  have hsz : Hid (sizeAt l n = (joinL l).length) := by unfold Hid sizeAt; rw [List.take_of_length_le (by rw [h.len]; omega)]
  have hszn : sizeAt l n ≤ 100000000 := by rw [hsz.out]; exact hm
  have hmk := make0 (sizeAt l n) (by omega)
  go_enter Tryd.func46, Tryd.ntmps46
  go_wp2
  go_loop [3, 11] (fun x i => ∃ k : Nat, k ≤ n ∧ i = .int .i64 k ∧ x = .int .i64 (sizeAt l k : Int)) (fun _ i => n - (intOf i).toNat)
  case atStart => exact ⟨0, Nat.zero_le _, rfl, rfl⟩
  case round =>
    obtain ⟨k, hk, rfl, rfl⟩ := hrel
    by_cases hlt : k < n
    · obtain ⟨b, off, rfl, hb, hc⟩ := h.pos (by omega)
      obtain ⟨A', n', c', g1, g2⟩ := hc k (by omega)
      have hs : Hid ((sizeAt l k : Int) + (4 + (n' : Int)) = (sizeAt l (k + 1) : Int)) := by
        unfold Hid sizeAt
        rw [joinL_len_snoc (by rw [h.len]; omega), g2.len]
        omega
      have hb1 : sizeAt l (k + 1) ≤ 100000000 := Nat.le_trans (joinL_le l (k + 1)) hm
      have hb2 : n' + sizeAt l k ≤ 100000000 := by have := hs.out; omega
      clear hc hmk
      go_wp2
      go_round
      case rel => exact ⟨k + 1, by omega, by go_num, congrArg (Value.int .i64) hs.out⟩
      case measure => simp [intOf]; omega
    · obtain rfl : k = n := by omega
      go_wp2
      clear hmk
      go_loopw [6, 25] (fun v i wr => ∃ (j cc : Nat) (D : Option Addr), j ≤ k ∧ i = .int .i64 j ∧ v = .slice D (sizeAt l j) cc ∧ Own w.heap.size wr D (sizeAt l j) cc (joinL (l.take j)) ∧ Ext w wr) (fun _ i _ => k - (intOf i).toNat)
      case atStart => exact ⟨0, _, _, Nat.zero_le _, rfl, rfl, Own.made w _ _ (Nat.le_refl _) (by omega), (Ext.refl w).alloc _⟩
      case round =>
        obtain ⟨j, cc, D, hj, rfl, rfl, ho, hE⟩ := hrel
        by_cases hlj : j < k
        · obtain ⟨b, off, rfl, hb, hc⟩ := h.pos (by omega)
          obtain ⟨A', n', c', g1', g2⟩ := hc j (by omega)
          have g1 := (hE.cell (p := ⟨b, off + j, none⟩) hb).trans g1'
          have t3 := g2.le
          have t4 := g2.cap
          have hszj := hE.size
          have hb1 : sizeAt l (j + 1) ≤ 100000000 := Nat.le_trans (joinL_le l (j + 1)) hm
          have hs : Hid (sizeAt l (j + 1) = sizeAt l j + 4 + n') := by
            unfold Hid sizeAt
            rw [joinL_len_snoc (by rw [h.len]; omega), g2.len]
            omega
          have hb2 : n' + 4 + sizeAt l j ≤ 100000000 := by have := hs.out; omega
          have hjn : Hid (joinL (l.take (j + 1)) = joinL (l.take j) ++ (lowL n' 4).reverse ++ l.getD j []) := by
            unfold Hid
            rw [joinL_snoc (by rw [h.len]; omega), row4, g2.len, List.append_assoc]
          clear hc g1'
          go_wp2_with fail
          refine (high_calls (m := 4) (by omega) (by omega) (by omega) (by omega) (by omega)).mono ?_
          rintro e w1 ⟨A1, n1, c1, rfl, b1, e1⟩
          obtain rfl : n1 = 4 := by rw [← b1.len, List.length_reverse, lowL_len]
          have hE1 := hE.trans e1
          have z1 := e1.size
          go_wp2_with (first
            | (at_builtin; refine wpList_append_bs rfl (B := w.heap.size) (s := .tmp 29) (x := .tmp 33) rfl rfl rfl (ho.ext e1) b1 (by omega) (by omega) ?_; intro D' cc' w2 ho2 hg2 hbl)
            | (at_builtin; refine wpList_append_bs rfl (B := w.heap.size) (s := .tmp 35) (x := .tmp 36) rfl rfl rfl ho2 (g2.ext (hE1.trans' hbl)) (by omega) (by have := hbl.size; omega) ?_; intro D3 cc3 w3 ho3 hg3 hbl3))
          go_roundw
          case rel => exact ⟨j + 1, cc3, D3, by omega, by go_num, by rw [hs.out], by rw [hs.out, hjn.out]; exact ho3, (hE1.trans' hbl).trans' hbl3⟩
          case measure => simp [intOf]; omega
        · obtain rfl : j = k := by omega
          go_wp2
          go_ret
          exact ⟨_, _, _, rfl, by have := ho.bs; rwa [List.take_of_length_le (by rw [h.len]; omega)] at this, hE⟩
end Go.Proofs.YtmnohmhhmaeljaaDoor
end

section
/-
  Bytes parted into rows: plain mathematics; what Part hands back. No conditions.
-/
namespace Go.Proofs.YtmnohmhhmaeljaaDoor
open Go.ChangeShapes Go.WideShapes Go.ChangeAt Go.RowKit Go.Deep

/-- The rows of bytes, if they are whole. -/
def partF : Nat → List UInt8 → Option (List (List UInt8))
  | 0, _ => none
  | f + 1, b => if b.length = 0 then some [] else if b.length < 4 then none else
      if (b.drop 4).length < ofLowL (b.take 4).reverse then none else (partF f ((b.drop 4).drop (ofLowL (b.take 4).reverse))).map ((b.drop 4).take (ofLowL (b.take 4).reverse) :: ·)
theorem partF_enough : ∀ (f g : Nat) (b : List UInt8), b.length < f → b.length < g → partF f b = partF g b
  | 0, _, _, h, _ => absurd h (by omega)
  | _, 0, _, _, h => absurd h (by omega)
  | f + 1, g + 1, b, hf, hg => by
    rw [partF, partF]
    by_cases h0 : b.length = 0
    · rw [if_pos h0, if_pos h0]
    · rw [if_neg h0, if_neg h0]
      by_cases h4 : b.length < 4
      · rw [if_pos h4, if_pos h4]
      · rw [if_neg h4, if_neg h4]
        rw [partF_enough f g _ (by simp only [List.length_drop]; omega) (by simp only [List.length_drop]; omega)]
def partL (b : List UInt8) : Option (List (List UInt8)) := partF (b.length + 1) b
theorem partL_nil : partL [] = some [] := rfl
theorem partL_short {b : List UInt8} (h0 : 0 < b.length) (h : b.length < 4) : partL b = none := by
  rw [partL, partF, if_neg (by omega), if_pos h]
theorem partL_long {b : List UInt8} (h4 : 4 ≤ b.length) (h : (b.drop 4).length < ofLowL (b.take 4).reverse) : partL b = none := by
  rw [partL, partF, if_neg (by omega), if_neg (by omega), if_pos h]
theorem partL_step {b : List UInt8} (h4 : 4 ≤ b.length) (h : ofLowL (b.take 4).reverse ≤ (b.drop 4).length) :
    partL b = (partL ((b.drop 4).drop (ofLowL (b.take 4).reverse))).map ((b.drop 4).take (ofLowL (b.take 4).reverse) :: ·) := by
  rw [partL, partF, if_neg (by omega), if_neg (by omega), if_neg (by omega)]
  rw [partL, partF_enough b.length ((List.drop (ofLowL (List.take 4 b).reverse) (List.drop 4 b)).length + 1) _ (by simp only [List.length_drop]; omega) (by omega)]

theorem row4_head (x : List UInt8) (hx : x.length < 4294967296) (r : List UInt8) : ((row4 x ++ r).take 4) = (lowL x.length 4).reverse ∧ (row4 x ++ r).drop 4 = x ++ r := by
  unfold row4
  have h4 : (lowL x.length 4).reverse.length = 4 := by simp [lowL_len]
  constructor
  · rw [List.append_assoc, List.take_append_of_le_length (by omega), List.take_of_length_le (by omega)]
  · rw [List.append_assoc, List.drop_append_of_le_length (by omega), List.drop_of_length_le (by omega), List.nil_append]
theorem lowL_ofLowLm {m : Nat} {xs : List UInt8} (h : xs.length = m) : lowL (ofLowL xs) m = xs := h ▸ lowL_ofLowL xs
/-- What was joined is parted as it was. -/
theorem part_join : ∀ (l : List (List UInt8)), (∀ x ∈ l, x.length < 4294967296) → partL (joinL l) = some l
  | [], _ => rfl
  | x :: l, h => by
    have ih := part_join l (fun y hy => h y (by simp [hy]))
    have hx := h x (by simp)
    have hj : joinL (x :: l) = row4 x ++ joinL l := by simp [joinL]
    obtain ⟨t1, t2⟩ := row4_head x hx (joinL l)
    have hof : ofLowL (((row4 x ++ joinL l).take 4).reverse) = x.length := by
      rw [t1, List.reverse_reverse, ofLowL_lowL]
      exact Nat.mod_eq_of_lt hx
    rw [hj, partL_step (by rw [List.length_append, row4_len]; omega) (by rw [hof, t2, List.length_append]; omega), hof, t2]
    rw [List.drop_append_of_le_length (Nat.le_refl _), List.drop_of_length_le (Nat.le_refl _), List.nil_append, ih]
    simp
/-- What is parted, joined again, is just these bytes. -/
theorem join_part : ∀ (f : Nat) (b : List UInt8) (l : List (List UInt8)), b.length < f → partL b = some l → joinL l = b
  | 0, _, _, h, _ => absurd h (by omega)
  | f + 1, b, l, hf, h => by
    rcases Nat.eq_zero_or_pos b.length with h0 | h0
    · have : b = [] := List.eq_nil_of_length_eq_zero h0
      subst this
      rw [partL_nil] at h
      injection h with h
      subst h
      rfl
    · by_cases h4 : b.length < 4
      · rw [partL_short h0 h4] at h; cases h
      · by_cases hl : (b.drop 4).length < ofLowL (b.take 4).reverse
        · rw [partL_long (by omega) hl] at h; cases h
        · rw [partL_step (by omega) (by omega)] at h
          generalize hm : ofLowL (b.take 4).reverse = m at *
          cases hr : partL ((b.drop 4).drop m) with
          | none => rw [hr] at h; cases h
          | some l' =>
            rw [hr] at h
            simp only [Option.map_some, Option.some.injEq] at h
            subst h
            have ih := join_part f _ l' (by simp only [List.length_drop]; omega) hr
            have hj : joinL ((b.drop 4).take m :: l') = row4 ((b.drop 4).take m) ++ joinL l' := by simp [joinL]
            have hrow : row4 ((b.drop 4).take m) = b.take 4 ++ (b.drop 4).take m := by
              unfold row4
              rw [List.length_take, Nat.min_eq_left (by omega), ← hm, lowL_ofLowLm (m := 4) (by simp; omega), List.reverse_reverse]
            rw [hj, ih, hrow, List.append_assoc, List.take_append_drop, List.take_append_drop]
/-- The call hands back rows and an error's number. -/
def RetRwE (l : List (List UInt8)) (er : Int) (w : World) (e : Ending) (w' : World) : Prop := ∃ A n c, e = .returned (.tuple #[.slice A n c, .int .i64 er]) ∧ Rw w' A n c l ∧ Ext w w'
/-- What Part hands back for what the rows are. -/
def RetPart (r : Option (List (List UInt8))) (w : World) (e : Ending) (w' : World) : Prop := RetRwE (r.getD []) (if r.isSome then 0 else 3) w e w'
theorem RetPart.bad {r : Option (List (List UInt8))} {w w' : World} (h : r = none) (he : Ext w w') : RetPart r w (.returned (.tuple #[.slice none 0 0, .int .i64 3])) w' := by
  subst h
  exact ⟨none, 0, 0, rfl, Rw.nil _, he⟩
theorem RetPart.good {r : Option (List (List UInt8))} {w w' : World} {A : Option Addr} {n c : Nat} {l : List (List UInt8)} (h : r = some l) (hl : Rw w' A n c l) (he : Ext w w') : RetPart r w (.returned (.tuple #[.slice A n c, .int .i64 0])) w' := by
  subst h
  exact ⟨A, n, c, rfl, hl, he⟩
def lenOf : Value → Nat | .slice _ n _ => n | _ => 0
end Go.Proofs.YtmnohmhhmaeljaaDoor
end

section
/-
  Layer 17 as plain functions: reports, their bytes.
-/
namespace Go.Proofs.YtmnohmhhmaeljaaDoor
open Go.ChangeShapes Go.WideShapes Go.ChangeAt Go.RowKit Go.Deep
set_option maxRecDepth 100000

/-- A report's data. -/
structure Rm where
  id : Int
  whose : Int
  txt : List UInt8
  op : List UInt8
  st : Sm
/-- A report's cells. -/
def rpC (id whose : Int) (A : Option Addr) (n c : Nat) (op : List UInt8) (st : List Value) : List Value := [.int .i64 id, .int .i64 whose, .slice A n c] ++ (cellsOf op ++ st)
theorem rpC_len {op : List UInt8} {st : List Value} (h : op.length = 32) (hs : st.length = 68) (id whose : Int) (A : Option Addr) (n c : Nat) : (rpC id whose A n c op st).length = 103 := by simp [rpC, cellsOf_len, h, hs]
theorem one_rp {id whose : Int} {A : Option Addr} {n c : Nat} {op : List UInt8} {s : Sm} : ∀ v ∈ rpC id whose A n c op s.C, v.oneCell' = true := fun v hv => by
  simp only [rpC, List.mem_append, List.mem_cons, List.not_mem_nil, or_false] at hv
  rcases hv with (rfl | rfl | rfl) | h | h
  · rfl
  · rfl
  · rfl
  · exact one_mem _ v h
  · exact s.one v h
def Rm.ok (r : Rm) : Prop := r.op.length = 32 ∧ r.st.ok
/-- What of a report may be, its stamp aside. -/
def besideB (id whose : Int) (n : Nat) : Bool := (upB id 1000000 && upB whose 7) && decide (n ≤ 250)
def Rm.right (r : Rm) : Bool := besideB r.id r.whose r.txt.length && r.st.valid
def Rm.rows (r : Rm) : List (List UInt8) := [hiB r.id.toNat 4, [u8I r.whose], r.txt, r.op, bytesS r.st]
def bytesRp (r : Rm) : List UInt8 := if r.right then joinL r.rows else []
def bytesRpE (r : Rm) : Int := if r.right then 0 else 1
def zRm : Rm := ⟨0, 0, [], List.replicate 32 0, zSm⟩
theorem zRm_ok : zRm.ok := ⟨rfl, zSm_ok⟩
/-- The report of five rows. -/
def rdR (l : List (List UInt8)) : Rm := ⟨(numN (l.getD 0 []) 4 : Nat), (numN (l.getD 1 []) 1 : Nat), l.getD 2 [], l.getD 3 [], readS16 (l.getD 4 [])⟩
def formR (l : List (List UInt8)) : Bool := decide (l.length = 5) && (decide ((l.getD 0 []).length = 4) && (decide ((l.getD 1 []).length = 1) && (decide ((l.getD 3 []).length = 32) && (decide (readE16 (l.getD 4 []) = 0) && besideB (rdR l).id (rdR l).whose (rdR l).txt.length))))
def readRpE (b : List UInt8) : Int := match partL b with | none => 3 | some l => if formR l then 0 else 2
def readRp (b : List UInt8) : Rm := match partL b with | none => zRm | some l => if formR l then rdR l else zRm
theorem formR_iff {l : List (List UInt8)} : formR l = true ↔ l.length = 5 ∧ (l.getD 0 []).length = 4 ∧ (l.getD 1 []).length = 1 ∧ (l.getD 3 []).length = 32 ∧ readE16 (l.getD 4 []) = 0 ∧ besideB (rdR l).id (rdR l).whose (rdR l).txt.length = true := by
  unfold formR
  simp only [Bool.and_eq_true, decide_eq_true_eq]
theorem readR_none {b : List UInt8} (h : partL b = none) : readRp b = zRm ∧ readRpE b = 3 := by unfold readRp readRpE; rw [h]; exact ⟨rfl, rfl⟩
theorem readR_bad {b : List UInt8} {l : List (List UInt8)} (h : partL b = some l) (hf : formR l = false) : readRp b = zRm ∧ readRpE b = 2 := by
  unfold readRp readRpE; rw [h]; simp only [hf]; exact ⟨rfl, rfl⟩
theorem readR_good {b : List UInt8} {l : List (List UInt8)} (h : partL b = some l) (hf : formR l = true) : readRp b = rdR l ∧ readRpE b = 0 := by
  unfold readRp readRpE; rw [h]; simp only [hf]; exact ⟨rfl, rfl⟩
theorem besideB_iff {id whose : Int} {n : Nat} : besideB id whose n = true ↔ (0 ≤ id ∧ id ≤ 1000000) ∧ (0 ≤ whose ∧ whose ≤ 7) ∧ n ≤ 250 := by
  unfold besideB upB
  simp only [Bool.and_eq_true, decide_eq_true_eq, and_assoc]
theorem right_parts {r : Rm} (h : r.right = true) : besideB r.id r.whose r.txt.length = true ∧ r.st.valid = true := by
  unfold Rm.right at h
  simpa only [Bool.and_eq_true] using h
theorem rows_five {l : List (List UInt8)} (h : l.length = 5) : l = [l.getD 0 [], l.getD 1 [], l.getD 2 [], l.getD 3 [], l.getD 4 []] := by
  match l, h with
  | [a, b, c, d, e], _ => rfl
theorem rdR_ok {l : List (List UInt8)} (h : (l.getD 3 []).length = 32) : (rdR l).ok := ⟨h, readS_ok _⟩
theorem readR_ok (b : List UInt8) : (readRp b).ok := by
  unfold readRp
  split
  · exact zRm_ok
  · split
    · rename_i h
      exact rdR_ok (formR_iff.1 h).2.2.2.1
    · exact zRm_ok
theorem one_row {x : List UInt8} (h : x.length = 1) : [u8I (numN x 1 : Nat)] = x := by
  match x, h with
  | [a], _ =>
    have e : numN [a] 1 = a.toNat := by simp [numN, ofLowL]
    rw [e]
    unfold u8I
    have : ((a.toNat : Int) % 256).toNat = a.toNat := by have := a.toNat_lt; omega
    rw [this, UInt8.ofNat_toNat]
/-- What is read has just these bytes. -/
theorem bytes_readR {b : List UInt8} (h : readRpE b = 0) : (readRp b).right = true ∧ bytesRp (readRp b) = b := by
  unfold readRpE at h
  split at h
  · cases h
  · rename_i l hl
    split at h
    · rename_i hf
      obtain ⟨e, _⟩ := readR_good hl hf
      rw [e]
      obtain ⟨h5, h0, h1, h3, h4, hb⟩ := formR_iff.1 hf
      obtain ⟨_, b2, b3⟩ := bytes_read h4
      have hr : (rdR l).right = true := by
        unfold Rm.right
        rw [hb]
        exact b3
      refine ⟨hr, ?_⟩
      unfold bytesRp
      rw [if_pos hr]
      have hrows : (rdR l).rows = l := by
        unfold Rm.rows rdR
        simp only [Int.toNat_natCast]
        rw [b2, one_row h1]
        have e0 : hiB (numN (l.getD 0 []) 4) 4 = l.getD 0 [] := by
          unfold hiB
          rw [high_numN (by omega), List.take_of_length_le (by omega)]
        rw [e0]
        exact (rows_five h5).symm
      rw [hrows]
      exact join_part _ _ _ (Nat.lt_succ_self _) hl
    · cases h
theorem u8I_num {z : Int} (h0 : 0 ≤ z) (h : z ≤ 7) : (numN [u8I z] 1 : Nat) = z := by
  have e : numN [u8I z] 1 = (u8I z).toNat := by simp [numN, ofLowL]
  rw [e]
  unfold u8I
  rw [UInt8.toNat_ofNat']
  omega
/-- The bytes of a report that may be are read as it. -/
theorem read_bytesR {r : Rm} (ok : r.ok) (h : r.right = true) : readRpE (bytesRp r) = 0 ∧ readRp (bytesRp r) = r := by
  obtain ⟨hb, hv⟩ := right_parts h
  obtain ⟨⟨i0, i1⟩, ⟨w0, w1⟩, ht⟩ := besideB_iff.1 hb
  obtain ⟨s0, s1⟩ := read_bytes ok.2 hv
  have lS := bytesS_len ok.2 hv
  have hp : partL (bytesRp r) = some r.rows := by
    unfold bytesRp
    rw [if_pos h]
    refine part_join _ fun x hx => ?_
    simp only [Rm.rows, List.mem_cons, List.not_mem_nil, or_false] at hx
    rcases hx with rfl | rfl | rfl | rfl | rfl
    · rw [hiB_len]; omega
    · simp
    · omega
    · rw [ok.1]; omega
    · rw [lS]; omega
  have hrd : rdR r.rows = r := by
    have e0 : ((numN (hiB r.id.toNat 4) 4 : Nat) : Int) = r.id := by
      have := numN_high (n := r.id.toNat) (m := 4) (r := []) (by omega)
      rw [List.append_nil] at this
      unfold hiB
      rw [this]
      omega
    show (⟨(numN (hiB r.id.toNat 4) 4 : Nat), (numN [u8I r.whose] 1 : Nat), r.txt, r.op, readS16 (bytesS r.st)⟩ : Rm) = r
    rw [e0, u8I_num w0 w1, s1]
  have hf : formR r.rows = true := formR_iff.2 ⟨rfl, hiB_len _ _, rfl, ok.1, s0, by rw [hrd]; exact hb⟩
  obtain ⟨a, b⟩ := readR_good hp hf
  exact ⟨b, by rw [a, hrd]⟩
end Go.Proofs.YtmnohmhhmaeljaaDoor
end
