import Derived.Test.YtbnjmmefnjoofaaDoorPkI
import Derived.Test.YtbnjmmefnjoofaaDoorMac
/-
  Layer 16 as plain functions: tags, stamps, checks, bytes.
-/
namespace Go.Proofs.YtbnjmmefnjoofaaDoor
open Go.ChangeShapes Go.WideShapes Go.ChangeAt Go.RowKit Go.Deep
set_option maxRecDepth 100000

/-- The highest bytes first. -/
def hiB (n m : Nat) : List UInt8 := (lowL n m).reverse
theorem hiB_len (n m : Nat) : (hiB n m).length = m := by rw [hiB, List.length_reverse, lowL_len]
theorem hiB_one (n : Nat) : hiB n 1 = [UInt8.ofNat n] := by simp [hiB, lowL]
/-- What the tag covers. -/
def toldL (f t tm : Nat) (cm : List UInt8) : List UInt8 := ((hiB f 1 ++ hiB t 1) ++ hiB tm 4) ++ cm
theorem toldL_len {f t tm : Nat} {cm : List UInt8} (h : cm.length = 32) : (toldL f t tm cm).length = 38 := by simp [toldL, hiB_len, h]
/-- The key of an epoch. -/
def ekL (root : List UInt8) (ep : Nat) : List UInt8 := macL root (hiB ep 4)
def tagL16 (root : List UInt8) (ep f t tm : Nat) (cm : List UInt8) : List UInt8 := macL (ekL root ep) (toldL f t tm cm)
theorem tagL16_len (root : List UInt8) (ep f t tm : Nat) (cm : List UInt8) : (tagL16 root ep f t tm cm).length = 32 := macL_len _ _
/-- A stamp's data. -/
structure Sm where
  ep : Int
  f : Int
  t : Int
  tm : Int
  cm : List UInt8
  tg : List UInt8
def Sm.C (s : Sm) : List Value := stC s.ep s.f s.t s.tm s.cm s.tg
def Sm.ok (s : Sm) : Prop := s.cm.length = 32 ∧ s.tg.length = 32
def Sm.valid (s : Sm) : Bool := okS s.ep s.f s.t s.tm
theorem Sm.C_len {s : Sm} (h : s.ok) : s.C.length = 68 := stC_len h.1 h.2 _ _ _ _
theorem Sm.one (s : Sm) : ∀ v ∈ s.C, v.oneCell' = true := one_st
def zSm : Sm := ⟨0, 0, 0, 0, List.replicate 32 0, List.replicate 32 0⟩
theorem zSm_ok : zSm.ok := ⟨rfl, rfl⟩
theorem okS_in {ep f t tm : Int} (h : okS ep f t tm = true) : (0 ≤ ep ∧ ep ≤ 1000000) ∧ (0 ≤ f ∧ f ≤ 7) ∧ (0 ≤ t ∧ t ≤ 7) ∧ (0 ≤ tm ∧ tm ≤ 1000000) := by
  unfold okS upB at h
  simp only [Bool.and_eq_true, decide_eq_true_eq] at h
  omega
/-- A stamp that may be, by numbers that are not below nought. -/
theorem Sm.nat {s : Sm} (h : s.valid = true) : ∃ (ep f t tm : Nat), s = ⟨ep, f, t, tm, s.cm, s.tg⟩ ∧ ep ≤ 1000000 ∧ f ≤ 7 ∧ t ≤ 7 ∧ tm ≤ 1000000 := by
  obtain ⟨h1, h2, h3, h4⟩ := okS_in h
  refine ⟨s.ep.toNat, s.f.toNat, s.t.toNat, s.tm.toNat, ?_, by omega, by omega, by omega, by omega⟩
  obtain ⟨ep, f, t, tm, cm, tg⟩ := s
  dsimp only at h1 h2 h3 h4 ⊢
  rw [show ((ep.toNat : Nat) : Int) = ep by omega, show ((f.toNat : Nat) : Int) = f by omega, show ((t.toNat : Nat) : Int) = t by omega, show ((tm.toNat : Nat) : Int) = tm by omega]
/-- The stamp of an envelope at a time. -/
def mkOk (f t now : Int) : Bool := (upB now 1000000 && upB f 7) && upB t 7
def mkS (root : List UInt8) (ticks : Nat) (f t : Int) (cm : List UInt8) (now : Int) : Sm :=
  if mkOk f t now then ⟨((now.toNat / ticks : Nat) : Int), f, t, now, cm, tagL16 root (now.toNat / ticks) f.toNat t.toNat now.toNat cm⟩ else zSm
def mkE (f t now : Int) : Int := if mkOk f t now then 0 else 1
theorem mkS_ok (root : List UInt8) (ticks : Nat) (f t : Int) {cm : List UInt8} (now : Int) (h : cm.length = 32) : (mkS root ticks f t cm now).ok := by
  unfold mkS
  split
  · exact ⟨h, tagL16_len _ _ _ _ _ _⟩
  · exact zSm_ok
/-- Is it that relay's? -/
def chkE (root : List UInt8) (ticks : Nat) (s : Sm) (now : Int) : Int :=
  if s.valid && upB now 1000000 then
    (if s.ep.toNat = s.tm.toNat / ticks ∧ tagL16 root s.ep.toNat s.f.toNat s.t.toNat s.tm.toNat s.cm = s.tg then (if now < s.tm ∨ s.tm + 50 < now then 5 else 0) else 4) else 1
def bytesS (s : Sm) : List UInt8 := if s.valid then (hiB s.ep.toNat 4 ++ toldL s.f.toNat s.t.toNat s.tm.toNat s.cm) ++ s.tg else []
def bytesE (s : Sm) : Int := if s.valid then 0 else 1
theorem bytesS_len {s : Sm} (ok : s.ok) (h : s.valid = true) : (bytesS s).length = 74 := by
  unfold bytesS
  rw [if_pos h]
  simp [hiB_len, toldL_len ok.1, ok.2]
/-- The stamp of bytes, whether it may be or not. -/
def rdS (b : List UInt8) : Sm := ⟨(numN b 4 : Nat), (numN (b.drop 4) 1 : Nat), (numN (b.drop 5) 1 : Nat), (numN (b.drop 6) 4 : Nat), (b.drop 10).take 32, (b.drop 42).take 32⟩
def readE16 (b : List UInt8) : Int := if b.length < 74 then 3 else if 74 < b.length then 2 else if (rdS b).valid then 0 else 2
def readS16 (b : List UInt8) : Sm := if readE16 b = 0 then rdS b else zSm
theorem rdS_ok {b : List UInt8} (h : 74 ≤ b.length) : (rdS b).ok := ⟨by simp [rdS]; omega, by simp [rdS]; omega⟩
theorem readS_ok (b : List UInt8) : (readS16 b).ok := by
  unfold readS16
  split
  · rename_i h
    refine rdS_ok ?_
    unfold readE16 at h
    split at h
    · cases h
    · omega
  · exact zSm_ok
theorem cat_eq {a b c d : List UInt8} (h : a.length = c.length) : a ++ b = c ++ d ↔ a = c ∧ b = d := by
  constructor
  · intro q
    exact List.append_inj q h
  · rintro ⟨rfl, rfl⟩; rfl
/-- Bytes of 74 are the bytes of the stamp that they are read as. -/
theorem bytes_rdS {b : List UInt8} (h : b.length = 74) (hv : (rdS b).valid = true) : bytesS (rdS b) = b := by
  unfold bytesS
  rw [if_pos hv]
  show (hiB (numN b 4 : Int).toNat 4 ++ toldL (numN (b.drop 4) 1 : Int).toNat (numN (b.drop 5) 1 : Int).toNat (numN (b.drop 6) 4 : Int).toNat ((b.drop 10).take 32)) ++ (b.drop 42).take 32 = b
  simp only [Int.toNat_natCast]
  unfold toldL hiB
  rw [high_numN (by omega), high_numN (by rw [List.length_drop]; omega), high_numN (by rw [List.length_drop]; omega), high_numN (by rw [List.length_drop]; omega)]
  have e0 : b = b.take 4 ++ b.drop 4 := (List.take_append_drop 4 b).symm
  have e1 : b.drop 4 = (b.drop 4).take 1 ++ b.drop 5 := by rw [show b.drop 5 = (b.drop 4).drop 1 by rw [List.drop_drop]]; exact (List.take_append_drop 1 _).symm
  have e2 : b.drop 5 = (b.drop 5).take 1 ++ b.drop 6 := by rw [show b.drop 6 = (b.drop 5).drop 1 by rw [List.drop_drop]]; exact (List.take_append_drop 1 _).symm
  have e3 : b.drop 6 = (b.drop 6).take 4 ++ b.drop 10 := by rw [show b.drop 10 = (b.drop 6).drop 4 by rw [List.drop_drop]]; exact (List.take_append_drop 4 _).symm
  have e4 : b.drop 10 = (b.drop 10).take 32 ++ b.drop 42 := by rw [show b.drop 42 = (b.drop 10).drop 32 by rw [List.drop_drop]]; exact (List.take_append_drop 32 _).symm
  have e5 : (b.drop 42).take 32 = b.drop 42 := List.take_of_length_le (by rw [List.length_drop]; omega)
  rw [e5]
  conv => rhs; rw [e0, e1, e2, e3, e4]
  simp only [List.append_assoc]
/-- The bytes of a stamp are read as it. -/
theorem rdS_bytes {s : Sm} (ok : s.ok) (hv : s.valid = true) : rdS (bytesS s) = s := by
  obtain ⟨ep, f, t, tm, hs, h1, h2, h3, h4⟩ := Sm.nat hv
  obtain ⟨lc, lg⟩ := ok
  generalize s.cm = cm at *
  generalize s.tg = tg at *
  subst hs
  have e : bytesS ⟨ep, f, t, tm, cm, tg⟩ = hiB ep 4 ++ (hiB f 1 ++ (hiB t 1 ++ (hiB tm 4 ++ (cm ++ tg)))) := by
    unfold bytesS
    rw [if_pos hv]
    show (hiB (ep : Int).toNat 4 ++ toldL (f : Int).toNat (t : Int).toNat (tm : Int).toNat cm) ++ tg = _
    simp only [Int.toNat_natCast, toldL, List.append_assoc]
  rw [e]
  have n0 : numN (hiB ep 4 ++ (hiB f 1 ++ (hiB t 1 ++ (hiB tm 4 ++ (cm ++ tg))))) 4 = ep := numN_high (by omega)
  have d4 : (hiB ep 4 ++ (hiB f 1 ++ (hiB t 1 ++ (hiB tm 4 ++ (cm ++ tg))))).drop 4 = hiB f 1 ++ (hiB t 1 ++ (hiB tm 4 ++ (cm ++ tg))) := List.drop_left' (hiB_len _ _)
  have d5 : (hiB ep 4 ++ (hiB f 1 ++ (hiB t 1 ++ (hiB tm 4 ++ (cm ++ tg))))).drop 5 = hiB t 1 ++ (hiB tm 4 ++ (cm ++ tg)) := by rw [show (5 : Nat) = 4 + 1 from rfl, ← List.drop_drop, d4]; exact List.drop_left' (hiB_len _ _)
  have d6 : (hiB ep 4 ++ (hiB f 1 ++ (hiB t 1 ++ (hiB tm 4 ++ (cm ++ tg))))).drop 6 = hiB tm 4 ++ (cm ++ tg) := by rw [show (6 : Nat) = 5 + 1 from rfl, ← List.drop_drop, d5]; exact List.drop_left' (hiB_len _ _)
  have d10 : (hiB ep 4 ++ (hiB f 1 ++ (hiB t 1 ++ (hiB tm 4 ++ (cm ++ tg))))).drop 10 = cm ++ tg := by rw [show (10 : Nat) = 6 + 4 from rfl, ← List.drop_drop, d6]; exact List.drop_left' (hiB_len _ _)
  have d42 : (hiB ep 4 ++ (hiB f 1 ++ (hiB t 1 ++ (hiB tm 4 ++ (cm ++ tg))))).drop 42 = tg := by rw [show (42 : Nat) = 10 + 32 from rfl, ← List.drop_drop, d10]; exact List.drop_left' lc
  unfold rdS
  rw [n0, d4, d5, d6, d10, d42]
  have n1 : numN (hiB f 1 ++ (hiB t 1 ++ (hiB tm 4 ++ (cm ++ tg)))) 1 = f := numN_high (by omega)
  have n2 : numN (hiB t 1 ++ (hiB tm 4 ++ (cm ++ tg))) 1 = t := numN_high (by omega)
  have n3 : numN (hiB tm 4 ++ (cm ++ tg)) 4 = tm := numN_high (by omega)
  rw [n1, n2, n3, List.take_left' lc, List.take_of_length_le (by omega)]
theorem read_bytes {s : Sm} (ok : s.ok) (hv : s.valid = true) : readE16 (bytesS s) = 0 ∧ readS16 (bytesS s) = s := by
  have hl := bytesS_len ok hv
  have he : readE16 (bytesS s) = 0 := by
    unfold readE16
    rw [if_neg (by omega), if_neg (by omega), rdS_bytes ok hv, if_pos hv]
  exact ⟨he, by unfold readS16; rw [if_pos he, rdS_bytes ok hv]⟩
theorem bytes_read {b : List UInt8} (h : readE16 b = 0) : bytesE (readS16 b) = 0 ∧ bytesS (readS16 b) = b ∧ (readS16 b).valid = true := by
  have hr : readS16 b = rdS b := by unfold readS16; rw [if_pos h]
  unfold readE16 at h
  split at h
  · cases h
  split at h
  · cases h
  split at h
  · rename_i h1 h2 h3
    rw [hr]
    exact ⟨by unfold bytesE; rw [if_pos h3], bytes_rdS (by omega) h3, h3⟩
  · cases h
end Go.Proofs.YtbnjmmefnjoofaaDoor
