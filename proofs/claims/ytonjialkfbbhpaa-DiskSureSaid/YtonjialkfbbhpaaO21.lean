/-
  Calls as the laws of layer 21 list them; sectors that begin and end with a byte. No conditions.
-/
import Derived.Test.YtonjialkfbbhpaaLeaf
import Derived.Test.YtonjialkfbbhpaaO11
namespace Go.Proofs.Ytonjialkfbbhpaa
open Go.ChangeShapes Go.WideShapes Go.ChangeAt Go.RowKit Go.Deep
set_option maxRecDepth 100000

structure O21 where
  d : Int
  i : Int
  b : UInt8
  kept : Nat
def O21.C (o : O21) : List Value := [.int .i64 o.d, .int .i64 o.i, .int .u8 (o.b.toNat : Int), .int .u64 (o.kept : Int)]
def O21.ok (o : O21) : Prop := (-9223372036854775808 ≤ o.i ∧ o.i ≤ 9223372036854775807) ∧ o.kept < 18446744073709551616
theorem o21_of {W : World} {x : List Value} (h : FitL W (.i .i64 :: (.i .i64 :: (.i .u8 :: (.i .u64 :: [])))) x) : ∃ o : O21, x = o.C ∧ o.ok := by
  obtain ⟨d, r, rfl, _, h1⟩ := h.int
  obtain ⟨i, r, rfl, hi, h2⟩ := h1.int
  obtain ⟨b, r, rfl, h3⟩ := h2.u8
  obtain ⟨k, r, rfl, hk, h4⟩ := h3.u64
  obtain rfl := h4.nil
  exact ⟨⟨d, i, b, k⟩, rfl, hi, hk⟩
/-- The i-th call, in every later world. -/
theorem o21_at {w : World} {A : Option Addr} {n c : Nat} {L : List O21} (h : Cs w 4 A n c (L.map O21.C)) (ok : ∀ o ∈ L, o.ok) {i : Nat} (hi : i < n) :
    ∃ b off, ∃ o : O21, A = some ⟨b, off, none⟩ ∧ L[i]? = some o ∧ o.ok ∧ b < w.heap.size ∧ ∀ s, Ext w s → s.cell? ⟨b, off + i * 4, none⟩ = some (.int .i64 o.d) ∧ s.cell? ⟨b, off + i * 4 + 1, none⟩ = some (.int .i64 o.i) ∧ s.cell? ⟨b, off + i * 4 + 2, none⟩ = some (.int .u8 (o.b.toNat : Int)) ∧ s.cell? ⟨b, off + i * 4 + 3, none⟩ = some (.int .u64 (o.kept : Int)) := by
  have hl : L.length = n := by have := h.1.1; rwa [List.length_map] at this
  have hL : L[i]? = some (L[i]'(by omega)) := List.getElem?_eq_getElem _
  have hok := ok _ (List.getElem_mem (show i < L.length by omega))
  obtain ⟨b, off, hA, hb, hc⟩ := h.at hi
  have e1 : (L.map O21.C).getD i [] = (L[i]'(by omega)).C := by rw [List.getD_eq_getElem?_getD, List.getElem?_map, hL]; rfl
  rw [e1] at hc
  exact ⟨b, off, _, hA, hL, hok, hb, fun s e => ⟨(e.cell hb).trans (hc 0 _ rfl), (e.cell hb).trans (hc 1 _ rfl), (e.cell hb).trans (hc 2 _ rfl), (e.cell hb).trans (hc 3 _ rfl)⟩⟩
/-- The whole i-th call. -/
theorem o21_all {w : World} {A : Option Addr} {n c : Nat} {L : List O21} (h : Cs w 4 A n c (L.map O21.C)) (ok : ∀ o ∈ L, o.ok) {i : Nat} (hi : i < n) :
    ∃ b off, ∃ o : O21, A = some ⟨b, off, none⟩ ∧ L[i]? = some o ∧ o.ok ∧ ∀ s, Ext w s → ∀ q v, o.C[q]? = some v → s.cell? ⟨b, off + i * 4 + q, none⟩ = some v := by
  have hl : L.length = n := by have := h.1.1; rwa [List.length_map] at this
  have hL : L[i]? = some (L[i]'(by omega)) := List.getElem?_eq_getElem _
  have hok := ok _ (List.getElem_mem (show i < L.length by omega))
  obtain ⟨b, off, hA, hb, hc⟩ := h.at hi
  have e1 : (L.map O21.C).getD i [] = (L[i]'(by omega)).C := by rw [List.getD_eq_getElem?_getD, List.getElem?_map, hL]; rfl
  rw [e1] at hc
  exact ⟨b, off, _, hA, hL, hok, fun s e q v hv => (e.cell hb).trans (hc q v hv)⟩
/-- A sector that begins and ends with a byte. -/
def secB (b : UInt8) : List UInt8 := b :: (List.replicate 62 0 ++ [b])
theorem secB_len (b : UInt8) : (secB b).length = 64 := by simp [secB]
end Go.Proofs.Ytonjialkfbbhpaa
