import Derived.Test.YtbnjmmefnjoofaaDoorEnvB
import Derived.Test.YtbnjmmefnjoofaaDoorPkJ
import Derived.Test.YtbnjmmefnjoofaaDoorRfE12
/-
  head.Bytes and head.Envelope, whole, and the document's.
-/
namespace Go.Proofs.YtbnjmmefnjoofaaDoor
open Go.ChangeShapes Go.WideShapes Go.ChangeAt Go.RowKit Go.Deep
set_option maxRecDepth 100000

def hbE (p n : Int) : Int := if okH p n then 0 else 1
def hbX (pk : List UInt8) (p n : Int) : List UInt8 := if okH p n then headL pk p.toNat n.toNat else []
def enE (f t p n : Int) (m : Nat) : Int := if okE f t p n m then 0 else 1
def enX (f t : Int) (cm pk : List UInt8) (p n : Int) (body : List UInt8) : List UInt8 := if okE f t p n body.length then envL (UInt8.ofNat f.toNat) (UInt8.ofNat t.toNat) cm pk p.toNat n.toNat body else []
theorem okH_nat {p n : Int} (h : okH p n = true) : ∃ a b : Nat, p = (a : Int) ∧ n = (b : Int) ∧ a ≤ 1000000 ∧ b ≤ 1000000 := by
  unfold okH upB at h
  simp only [Bool.and_eq_true, decide_eq_true_eq] at h
  exact ⟨p.toNat, n.toNat, by omega, by omega, by omega, by omega⟩
theorem okE_nat {f t p n : Int} {m : Nat} (h : okE f t p n m = true) : ∃ (x y : UInt8) (a b : Nat), f = (x.toNat : Int) ∧ t = (y.toNat : Int) ∧ p = (a : Int) ∧ n = (b : Int) ∧ x.toNat ≤ 7 ∧ y.toNat ≤ 7 ∧ a ≤ 1000000 ∧ b ≤ 1000000 ∧ m ≤ 600 ∧ x = UInt8.ofNat f.toNat ∧ y = UInt8.ofNat t.toNat := by
  unfold okE at h
  simp only [Bool.and_eq_true] at h
  obtain ⟨h1, h2, h3, h4⟩ := h
  obtain ⟨a, b, rfl, rfl, ha, hb⟩ := okH_nat h3
  unfold upB at h1 h2
  simp only [Bool.and_eq_true, decide_eq_true_eq] at h1 h2 h4
  have e1 : (UInt8.ofNat f.toNat).toNat = f.toNat := by rw [UInt8.toNat_ofNat']; omega
  have e2 : (UInt8.ofNat t.toNat).toNat = t.toNat := by rw [UInt8.toNat_ofNat']; omega
  exact ⟨UInt8.ofNat f.toNat, UInt8.ofNat t.toNat, a, b, by omega, by omega, rfl, rfl, by omega, by omega, ha, hb, by omega, rfl, rfl⟩
theorem hbytes_calls {w : World} {pk : List UInt8} {p n : Int} (lp : pk.length = 32) : Calls Tryd.prog 68 #[.agg (hdC pk p n).toArray] w (RetBsE (hbX pk p n) (hbE p n) w) := by
  rcases h : okH p n with _ | _
  · unfold hbX hbE
    rw [h]
    exact (headBytes_bad lp h).mono fun e w' q => ⟨none, 0, 0, q.1, Bs.nil _, q.2⟩
  · obtain ⟨a, b, rfl, rfl, ha, hb⟩ := okH_nat h
    unfold hbX hbE
    rw [h]
    exact headBytes_ok lp ha hb
theorem rbytes_calls {w : World} {pk : List UInt8} {p n : Int} (lp : pk.length = 32) : Calls Tryd.prog 79 #[.agg (hdC pk p n).toArray] w (RetBsE (hbX pk p n) (hbE p n) w) := by
  rcases h : okH p n with _ | _
  · unfold hbX hbE
    rw [h]
    exact (refBytes_bad lp h).mono fun e w' q => ⟨none, 0, 0, q.1, Bs.nil _, q.2⟩
  · obtain ⟨a, b, rfl, rfl, ha, hb⟩ := okH_nat h
    unfold hbX hbE
    rw [h]
    exact refBytes_ok lp ha hb
theorem henv_calls {w : World} {f t p n : Int} {cm pk body : List UInt8} {A : Option Addr} {m c : Nat} (hc : cm.length = 32) (hk : pk.length = 32) (hb : Bs w A m c body) :
    Calls Tryd.prog 42 #[.agg (evC f t cm pk p n A m c).toArray] w (RetBsE (enX f t cm pk p n body) (enE f t p n m) w) := by
  have lm := hb.len
  have hm : m ≤ 9223372036854775807 := Nat.le_trans hb.le hb.cap
  rcases h : okE f t p n m with _ | _
  · unfold enX enE
    rw [lm, h]
    exact (envelope_bad hc hk hm h).mono fun e w' q => ⟨none, 0, 0, q.1, Bs.nil _, q.2⟩
  · obtain ⟨x, y, a, b, h1, h2, rfl, rfl, hx, hy, ha, hb', hm', e1, e2⟩ := okE_nat h
    unfold enX enE
    rw [lm, h, ← e1, ← e2, h1, h2]
    exact envelope_ok hc hk hx hy ha hb' hb hm'
theorem renv_calls {w : World} {f t p n : Int} {cm pk body : List UInt8} {A : Option Addr} {m c : Nat} (hc : cm.length = 32) (hk : pk.length = 32) (hb : Bs w A m c body) :
    Calls Tryd.prog 56 #[.agg (evC f t cm pk p n A m c).toArray] w (RetBsE (enX f t cm pk p n body) (enE f t p n m) w) := by
  have lm := hb.len
  have hm : m ≤ 9223372036854775807 := Nat.le_trans hb.le hb.cap
  rcases h : okE f t p n m with _ | _
  · unfold enX enE
    rw [lm, h]
    exact (refEnvelope_bad hc hk hm h).mono fun e w' q => ⟨none, 0, 0, q.1, Bs.nil _, q.2⟩
  · obtain ⟨x, y, a, b, h1, h2, rfl, rfl, hx, hy, ha, hb', hm', e1, e2⟩ := okE_nat h
    unfold enX enE
    rw [lm, h, ← e1, ← e2, h1, h2]
    exact refEnvelope_ok hc hk hx hy ha hb' hb hm'
end Go.Proofs.YtbnjmmefnjoofaaDoor
