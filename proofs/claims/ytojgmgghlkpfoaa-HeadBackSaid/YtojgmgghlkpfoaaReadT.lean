/-
  Reading a head: take, where there is enough.
-/
import Derived.Test.YtojgmgghlkpfoaaReadP
import Derived.Test.YtojgmgghlkpfoaaCut
import Derived.Test.YtojgmgghlkpfoaaCut2
namespace Go.Proofs.Ytojgmgghlkpfoaa
open Go.ChangeShapes Go.WideShapes Go.ChangeAt Go.RowKit Go.Deep
set_option maxRecDepth 100000

theorem grown_setCell8 {w : World} {g o : Nat} {v : Value} : w.grownBy (w.setCell ⟨g, o, none⟩ v) (some g) := grown_setCells (w := w) (g := g) (o := o) (vs := [v])
theorem Bs.cell1 {w : World} {A : Option Addr} {n c g : Nat} {xs : List UInt8} {T : TypeId} {v u : Value} (h : Bs w A n c xs) (hg : Cb w g T [v]) (hv : ∀ k i, v ≠ .int k i) : Bs (w.setCell ⟨g, 0, none⟩ u) A n c xs := by
  refine ⟨h.1, h.2.1, h.2.2.1, fun h0 => ?_⟩
  obtain ⟨b, off, hA, hb, hc⟩ := h.2.2.2 h0
  have gr : w.grownBy (w.setCell ⟨g, 0, none⟩ u) (some g) := grown_setCell8
  have hne : b ≠ g := by
    intro q
    subst q
    have h1 := hc 0 h0
    rw [cell_of_row w b _ _ _ _ hg, List.getElem?_toArray] at h1
    match off, h1 with
    | 0, h1 => simp at h1; exact hv _ _ h1
    | k + 1, h1 => simp at h1
  have hq := gr.block b hb (fun q => hne (Option.some.inj q))
  refine ⟨b, off, hA, Nat.lt_of_lt_of_le hb gr.size, fun j hj => ?_⟩
  rw [← hc j hj]
  simp only [World.cell?, hq]
theorem Bs.grown {w w' : World} {A : Option Addr} {n c g : Nat} {xs : List UInt8} {T : TypeId} {v : Value} (h : Bs w A n c xs) (hg : Cb w g T [v]) (hv : ∀ k i, v ≠ .int k i) (gr : w.grownBy w' (some g)) : Bs w' A n c xs := by
  refine ⟨h.1, h.2.1, h.2.2.1, fun h0 => ?_⟩
  obtain ⟨b, off, hA, hb, hc⟩ := h.2.2.2 h0
  have hne : b ≠ g := by
    intro q
    subst q
    have h1 := hc 0 h0
    rw [cell_of_row w b _ _ _ _ hg, List.getElem?_toArray] at h1
    match off, h1 with
    | 0, h1 => simp at h1; exact hv _ _ h1
    | k + 1, h1 => simp at h1
  have hq := gr.block b hb (fun q => hne (Option.some.inj q))
  refine ⟨b, off, hA, Nat.lt_of_lt_of_le hb gr.size, fun j hj => ?_⟩
  rw [← hc j hj]
  simp only [World.cell?, hq]
set_option maxHeartbeats 2000000 in
theorem take_ok {w : World} {g n c k : Nat} {A : Option Addr} {xs : List UInt8} (h : Cb w g 73 [.slice A n c]) (hb : Bs w A n c xs) (hk : k ≤ n) (hm : k ≤ 1000000) :
    Calls Try.prog 45 #[.pointer (some ⟨g, 0, none⟩), .int .i64 (k : Int)] w fun e w' => e = .returned (.slice A k c) ∧ ∃ A', Cb w' g 73 [.slice A' (n - k) (c - k)] ∧ Bs w' A k c (xs.take k) ∧ Bs w' A' (n - k) (c - k) (xs.drop k) ∧ w.grownBy w' (some g) ∧ (∀ s, Bs s A n c xs → Bs s A' (n - k) (c - k) (xs.drop k)) := by
  have c0 := h.cell (j := 0) rfl
  have fz := h.frozen 0
  have u1 : decide ((n : Int) < (k : Int)) = false := decide_eq_false (by omega)
  have hnc := hb.2.1
  have hbt : Bs w A k c (xs.take k) := ⟨by rw [List.length_take, hb.1]; omega, by omega, hb.2.2.1, fun h0 => by
    obtain ⟨b, off, hA, hbl, hc⟩ := hb.2.2.2 (by omega)
    exact ⟨b, off, hA, hbl, fun j hj => by rw [hc j (by omega)]; congr 3; simp [bt, List.getD, hj]⟩⟩
  have fin : Hid (∀ (A' : Option Addr), A' = (if c = k then A else A.map (·.add k)) → Cb (w.setCell ⟨g, 0, none⟩ (.slice A' (n - k) (c - k))) g 73 [.slice A' (n - k) (c - k)] ∧ Bs (w.setCell ⟨g, 0, none⟩ (.slice A' (n - k) (c - k))) A k c (xs.take k) ∧ Bs (w.setCell ⟨g, 0, none⟩ (.slice A' (n - k) (c - k))) A' (n - k) (c - k) (xs.drop k) ∧ w.grownBy (w.setCell ⟨g, 0, none⟩ (.slice A' (n - k) (c - k))) (some g) ∧ (∀ s, Bs s A n c xs → Bs s A' (n - k) (c - k) (xs.drop k))) := fun A' hA' => by
    subst hA'
    exact ⟨h.setCell, hbt.cell1 h (fun k i q => by cases q), (hb.cut hk).cell1 h (fun k i q => by cases q), grown_setCell8, fun s q => q.cut hk⟩
  clear hbt
  clear h hb
  by_cases hck : c = k
  · subst hck
    obtain rfl : n = c := by omega
    have f := fin.out A (if_pos rfl).symm
    simp only [Nat.sub_self] at f
    replace f := Lib.hid f
    clear fin
    go_enter Try.func45, Try.ntmps45
    go_wp2_with fail
    go_ret
    exact ⟨rfl, A, by simp only [Nat.sub_self]; exact f.out⟩
  · have f := Lib.hid (fin.out (A.map (·.add k)) (if_neg hck).symm)
    clear fin
    go_enter Try.func45, Try.ntmps45
    go_wp2_with fail
    go_ret
    exact ⟨rfl, A.map (·.add k), f.out⟩
end Go.Proofs.Ytojgmgghlkpfoaa
