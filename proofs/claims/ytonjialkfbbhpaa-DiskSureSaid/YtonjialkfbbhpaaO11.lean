/-
  Calls as the laws of layer 11 list them. No conditions.
-/
import Derived.Test.YtonjialkfbbhpaaLeaf
namespace Go.Proofs.Ytonjialkfbbhpaa
open Go.ChangeShapes Go.WideShapes Go.ChangeAt Go.RowKit Go.Deep
set_option maxRecDepth 100000

/-- A call of the law's list. -/
structure O11 where
  d : Int
  pk : List UInt8
  n : Int
  k : List UInt8
def O11.C (o : O11) : List Value := [.int .i64 o.d] ++ (cellsOf o.pk ++ ([.int .i64 o.n] ++ cellsOf o.k))
def O11.ok (o : O11) : Prop := o.pk.length = 32 ∧ o.k.length = 32 ∧ -9223372036854775808 ≤ o.n ∧ o.n ≤ 9223372036854775807
theorem O11.c0 (o : O11) : o.C[0]? = some (.int .i64 o.d) := rfl
theorem O11.c1 (o : O11) (q : Nat) (v : Value) (h : (cellsOf o.pk)[q]? = some v) : o.C[1 + q]? = some v := by
  unfold O11.C
  rw [List.getElem?_append_right (by simp), List.length_singleton, Nat.add_sub_cancel_left, List.getElem?_append_left (List.getElem?_eq_some_iff.1 h).1, h]
theorem O11.c33 {o : O11} (ok : o.ok) : o.C[33]? = some (.int .i64 o.n) := by
  unfold O11.C
  rw [List.getElem?_append_right (by simp), List.length_singleton, List.getElem?_append_right (by rw [cellsOf_len, ok.1]; omega), cellsOf_len, ok.1]
  rfl
theorem O11.c34 {o : O11} (ok : o.ok) (q : Nat) (v : Value) (h : (cellsOf o.k)[q]? = some v) : o.C[34 + q]? = some v := by
  unfold O11.C
  rw [List.getElem?_append_right (by simp; omega), List.length_singleton, List.getElem?_append_right (by rw [cellsOf_len, ok.1]; omega), cellsOf_len, ok.1, List.getElem?_append_right (by simp; omega), List.length_singleton, show 34 + q - 1 - 32 - 1 = q by omega, h]
theorem o11_of {W : World} {x : List Value} (h : FitL W (.i .i64 :: (List.replicate 32 (.i .u8) ++ (.i .i64 :: (List.replicate 32 (.i .u8) ++ [])))) x) : ∃ o : O11, x = o.C ∧ o.ok := by
  obtain ⟨d, r, rfl, _, h1⟩ := h.int
  obtain ⟨pk, r, rfl, lp, h2⟩ := h1.key
  obtain ⟨n, r, rfl, hn, h3⟩ := h2.int
  obtain ⟨k, r, rfl, lk, h4⟩ := h3.key
  obtain rfl := h4.nil
  exact ⟨⟨d, pk, n, k⟩, by simp [O11.C], lp, lk, hn⟩
theorem list_of {α : Type} {p : α → Prop} {f : α → List Value} : ∀ {K : List (List Value)}, (∀ x ∈ K, ∃ o, x = f o ∧ p o) → ∃ L : List α, K = L.map f ∧ ∀ o ∈ L, p o
  | [], _ => ⟨[], rfl, fun o h => by cases h⟩
  | x :: K, h => by
    obtain ⟨o, rfl, ho⟩ := h x (List.mem_cons_self ..)
    obtain ⟨L, rfl, hL⟩ := list_of fun y hy => h y (List.mem_cons_of_mem _ hy)
    exact ⟨o :: L, rfl, fun z hz => by
      rcases List.mem_cons.1 hz with rfl | hz
      · exact ho
      · exact hL z hz⟩
/-- The cells of the i-th call, in every later world. -/
theorem o11_at {w : World} {A : Option Addr} {n c : Nat} {L : List O11} (h : Cs w 66 A n c (L.map O11.C)) (ok : ∀ o ∈ L, o.ok) {i : Nat} (hi : i < n) :
    ∃ b off, ∃ o : O11, A = some ⟨b, off, none⟩ ∧ L[i]? = some o ∧ o.ok ∧ ∀ s, Ext w s → s.cell? ⟨b, off + i * 66, none⟩ = some (.int .i64 o.d) ∧ (∀ q v, (cellsOf o.pk)[q]? = some v → s.cell? ⟨b, off + i * 66 + 1 + q, none⟩ = some v) ∧ s.cell? ⟨b, off + i * 66 + 33, none⟩ = some (.int .i64 o.n) ∧ (∀ q v, (cellsOf o.k)[q]? = some v → s.cell? ⟨b, off + i * 66 + 34 + q, none⟩ = some v) := by
  have hl : L.length = n := by have := h.1.1; rwa [List.length_map] at this
  have hL : L[i]? = some (L[i]'(by omega)) := List.getElem?_eq_getElem _
  have hok := ok _ (List.getElem_mem (show i < L.length by omega))
  obtain ⟨b, off, hA, hb, hc⟩ := h.at hi
  have e1 : (L.map O11.C).getD i [] = (L[i]'(by omega)).C := by rw [List.getD_eq_getElem?_getD, List.getElem?_map, hL]; rfl
  rw [e1] at hc
  refine ⟨b, off, _, hA, hL, hok, fun s e => ⟨(e.cell hb).trans (hc 0 _ (O11.c0 _)), fun q v hv => (e.cell hb).trans ?_, (e.cell hb).trans (hc 33 _ (O11.c33 hok)), fun q v hv => (e.cell hb).trans ?_⟩⟩
  · rw [Nat.add_assoc]; exact hc _ _ (O11.c1 _ q v hv)
  · rw [Nat.add_assoc]; exact hc _ _ (O11.c34 hok q v hv)
end Go.Proofs.Ytonjialkfbbhpaa
