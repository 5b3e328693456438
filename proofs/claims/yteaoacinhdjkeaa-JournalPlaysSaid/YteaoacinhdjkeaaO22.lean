/-
  Calls as the law JournalPlays lists them. No conditions.
-/
import Derived.Test.YteaoacinhdjkeaaLeaf
import Derived.Test.YteaoacinhdjkeaaCs
namespace Go.Proofs.Yteaoacinhdjkeaa
open Go.ChangeShapes Go.WideShapes Go.ChangeAt Go.RowKit Go.Deep
set_option maxRecDepth 100000

structure O22 where
  d : Int
  i : Int
  A : Option Addr
  c : Nat
  b : List UInt8
  kept : Nat
def O22.C (o : O22) : List Value := [.int .i64 o.d, .int .i64 o.i, .slice o.A o.b.length o.c, .int .u64 (o.kept : Int)]
def O22.ok (W : World) (o : O22) : Prop := (-9223372036854775808 ≤ o.i ∧ o.i ≤ 9223372036854775807) ∧ o.kept < 18446744073709551616 ∧ Bs W o.A o.b.length o.c o.b
theorem o22_of {W : World} {x : List Value} (h : FitL W (.i .i64 :: (.i .i64 :: (.s8 :: (.i .u64 :: [])))) x) : ∃ o : O22, x = o.C ∧ o.ok W := by
  obtain ⟨d, r, rfl, _, h1⟩ := h.int
  obtain ⟨i, r, rfl, hi, h2⟩ := h1.int
  obtain ⟨A, m, c, xs, r, rfl, bs, h3⟩ := h2.bs
  obtain ⟨k, r, rfl, hk, h4⟩ := h3.u64
  obtain rfl := h4.nil
  obtain rfl : xs.length = m := bs.len
  exact ⟨⟨d, i, A, c, xs, k⟩, rfl, hi, hk, bs⟩
theorem list_of22 {α : Type} {p : α → Prop} {f : α → List Value} : ∀ {K : List (List Value)}, (∀ x ∈ K, ∃ o, x = f o ∧ p o) → ∃ L : List α, K = L.map f ∧ ∀ o ∈ L, p o
  | [], _ => ⟨[], rfl, fun o h => by cases h⟩
  | x :: K, h => by
    obtain ⟨o, rfl, ho⟩ := h x (List.mem_cons_self ..)
    obtain ⟨L, rfl, hL⟩ := list_of22 fun y hy => h y (List.mem_cons_of_mem _ hy)
    exact ⟨o :: L, rfl, fun z hz => by
      rcases List.mem_cons.1 hz with rfl | hz
      · exact ho
      · exact hL z hz⟩
/-- The whole i-th call. -/
theorem o22_all {w : World} {A : Option Addr} {n c : Nat} {L : List O22} (h : Cs w 4 A n c (L.map O22.C)) (ok : ∀ o ∈ L, o.ok w) {i : Nat} (hi : i < n) :
    ∃ b off, ∃ o : O22, A = some ⟨b, off, none⟩ ∧ L[i]? = some o ∧ o.ok w ∧ ∀ s, Ext w s → ∀ q v, o.C[q]? = some v → s.cell? ⟨b, off + i * 4 + q, none⟩ = some v := by
  have hl : L.length = n := by have := h.1.1; rwa [List.length_map] at this
  have hL : L[i]? = some (L[i]'(by omega)) := List.getElem?_eq_getElem _
  have hok := ok _ (List.getElem_mem (show i < L.length by omega))
  obtain ⟨b, off, hA, hb, hc⟩ := h.at hi
  have e1 : (L.map O22.C).getD i [] = (L[i]'(by omega)).C := by rw [List.getD_eq_getElem?_getD, List.getElem?_map, hL]; rfl
  rw [e1] at hc
  exact ⟨b, off, _, hA, hL, hok, fun s e q v hv => (e.cell hb).trans (hc q v hv)⟩
end Go.Proofs.Yteaoacinhdjkeaa
