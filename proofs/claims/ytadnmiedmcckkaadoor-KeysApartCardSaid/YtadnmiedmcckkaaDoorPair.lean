import Derived.Test.YtadnmiedmcckkaaDoorPkN
import Derived.Test.YtadnmiedmcckkaaDoorFldOps
/-
  The ladder's pair of points in memory: a, b, c, d of eight words each; the exchange.
-/
namespace Go.Proofs.YtadnmiedmcckkaaDoor
open Go.ChangeShapes Go.WideShapes Go.ChangeAt Go.RowKit Go.Deep
set_option maxRecDepth 100000

def prC (a b c d : List Nat) : List Value := wcells a ++ (wcells b ++ (wcells c ++ wcells d))
def L8 (a b c d : List Nat) : Prop := a.length = 8 ∧ b.length = 8 ∧ c.length = 8 ∧ d.length = 8
theorem prC_len {a b c d : List Nat} (h : L8 a b c d) : (prC a b c d).length = 32 := by
  obtain ⟨h1, h2, h3, h4⟩ := h
  simp [prC, wc8' h1, wc8' h2, wc8' h3, wc8' h4]
theorem prC_one (a b c d : List Nat) : (prC a b c d).toArray.all (·.oneCell') = true := by
  refine all_oneCell_toArray fun v hv => ?_
  have : ∀ xs : List Nat, v ∈ wcells xs → v.oneCell' = true := fun xs h => by
    have := wcells_one xs
    rw [Array.all_eq_true'] at this
    exact this v (by simpa using h)
  simp only [prC, List.mem_append] at hv
  rcases hv with h | h | h | h <;> exact this _ h
/-- Block g is such a pair. -/
def Pr (w : World) (g : Nat) (a b c d : List Nat) : Prop := w.heap[g]? = some (.cells (prC a b c d).toArray 62 (0, 0)) ∧ L8 a b c d
section
variable {w w' : World} {g : Nat} {a b c d : List Nat}
theorem Pr.lt (h : Pr w g a b c d) : g < w.heap.size := heap_lt h.1
theorem Pr.kept {B : Nat} (h : Pr w g a b c d) (he : Below B w w') (hB : g < B) : Pr w' g a b c d := ⟨(he.block g hB).trans h.1, h.2⟩
theorem Pr.at0 (h : Pr w g a b c d) : ∀ j v, (wcells a)[j]? = some v → w.cell? ⟨g, 0 + j, none⟩ = some v := fun j v hv => by
  rw [cell_of_row w g _ _ _ _ h.1, List.getElem?_toArray, prC, Nat.zero_add, List.getElem?_append_left (List.getElem?_eq_some_iff.1 hv).1, hv]
theorem Pr.at8 (h : Pr w g a b c d) : ∀ j v, (wcells b)[j]? = some v → w.cell? ⟨g, 8 + j, none⟩ = some v := fun j v hv => by
  rw [cell_of_row w g _ _ _ _ h.1, List.getElem?_toArray, prC, List.getElem?_append_right (by rw [wc8' h.2.1]; omega), wc8' h.2.1, Nat.add_sub_cancel_left, List.getElem?_append_left (List.getElem?_eq_some_iff.1 hv).1, hv]
theorem Pr.at16 (h : Pr w g a b c d) : ∀ j v, (wcells c)[j]? = some v → w.cell? ⟨g, 16 + j, none⟩ = some v := fun j v hv => by
  rw [cell_of_row w g _ _ _ _ h.1, List.getElem?_toArray, prC, List.getElem?_append_right (by rw [wc8' h.2.1]; omega), wc8' h.2.1, List.getElem?_append_right (by rw [wc8' h.2.2.1]; omega), wc8' h.2.2.1, show 16 + j - 8 - 8 = j by omega, List.getElem?_append_left (List.getElem?_eq_some_iff.1 hv).1, hv]
theorem Pr.at24 (h : Pr w g a b c d) : ∀ j v, (wcells d)[j]? = some v → w.cell? ⟨g, 24 + j, none⟩ = some v := fun j v hv => by
  rw [cell_of_row w g _ _ _ _ h.1, List.getElem?_toArray, prC, List.getElem?_append_right (by rw [wc8' h.2.1]; omega), wc8' h.2.1, List.getElem?_append_right (by rw [wc8' h.2.2.1]; omega), wc8' h.2.2.1, List.getElem?_append_right (by rw [wc8' h.2.2.2.1]; omega), wc8' h.2.2.2.1, show 24 + j - 8 - 8 - 8 = j by omega, hv]
theorem splice_pr0 (h : L8 a b c d) {x : List Nat} (hx : x.length = 8) : splice (prC a b c d) 0 (wcells x) = prC x b c d := by
  unfold splice prC
  rw [List.take_zero, List.nil_append, wc8' hx, Nat.zero_add, List.drop_left' (wc8' h.1)]
theorem splice_pr8 (h : L8 a b c d) {x : List Nat} (hx : x.length = 8) : splice (prC a b c d) 8 (wcells x) = prC a x c d := by
  unfold splice prC
  rw [wc8' hx, List.take_left' (wc8' h.1), ← List.append_assoc (wcells a) (wcells b), List.drop_left' (by simp [wc8' h.1, wc8' h.2.1])]
theorem splice_pr16 (h : L8 a b c d) {x : List Nat} (hx : x.length = 8) : splice (prC a b c d) 16 (wcells x) = prC a b x d := by
  unfold splice prC
  rw [wc8' hx, ← List.append_assoc (wcells a) (wcells b), List.take_left' (by simp [wc8' h.1, wc8' h.2.1]), ← List.append_assoc (wcells a ++ wcells b) (wcells c), List.drop_left' (by simp [wc8' h.1, wc8' h.2.1, wc8' h.2.2.1])]
  simp
theorem splice_pr24 (h : L8 a b c d) {x : List Nat} (hx : x.length = 8) : splice (prC a b c d) 24 (wcells x) = prC a b c x := by
  unfold splice prC
  rw [wc8' hx, ← List.append_assoc (wcells b) (wcells c), ← List.append_assoc (wcells a), List.take_left' (by simp [wc8' h.1, wc8' h.2.1, wc8' h.2.2.1]), List.drop_eq_nil_of_le (by simp [wc8' h.1, wc8' h.2.1, wc8' h.2.2.1, wc8' h.2.2.2])]
  simp
theorem Pr.set0 (h : Pr w g a b c d) {x : List Nat} (hx : x.length = 8) : Pr (w.setCells g 0 (wcells x)) g x b c d := ⟨by rw [← splice_pr0 h.2 hx]; exact heap_setCells_row _ _ _ _ h.1 (by rw [prC_len h.2, wc8' hx]; omega), hx, h.2.2⟩
theorem Pr.set8 (h : Pr w g a b c d) {x : List Nat} (hx : x.length = 8) : Pr (w.setCells g 8 (wcells x)) g a x c d := ⟨by rw [← splice_pr8 h.2 hx]; exact heap_setCells_row _ _ _ _ h.1 (by rw [prC_len h.2, wc8' hx]; omega), h.2.1, hx, h.2.2.2⟩
theorem Pr.set16 (h : Pr w g a b c d) {x : List Nat} (hx : x.length = 8) : Pr (w.setCells g 16 (wcells x)) g a b x d := ⟨by rw [← splice_pr16 h.2 hx]; exact heap_setCells_row _ _ _ _ h.1 (by rw [prC_len h.2, wc8' hx]; omega), h.2.1, h.2.2.1, hx, h.2.2.2.2⟩
theorem Pr.set24 (h : Pr w g a b c d) {x : List Nat} (hx : x.length = 8) : Pr (w.setCells g 24 (wcells x)) g a b c x := ⟨by rw [← splice_pr24 h.2 hx]; exact heap_setCells_row _ _ _ _ h.1 (by rw [prC_len h.2, wc8' hx]; omega), h.2.1, h.2.2.1, h.2.2.2.1, hx⟩
theorem Pr.there {o : Nat} (h : Pr w g a b c d) (ho : o + 8 ≤ 32) : w.there g o 8 := there_of_row h.1 (by rw [prC_len h.2]; omega)
end
theorem infoEl8 : (Tryd.prog.info? 57).map (·.size) = some 8 := by kernel_rfl
theorem infoPr : (Tryd.prog.info? 62).map (·.size) = some 32 := by kernel_rfl

set_option maxHeartbeats 4000000 in
/-- The exchange, at a bit that is 1. -/
theorem exch_one {g : Nat} {a b c d : List Nat} {w : World} (h : Pr w g a b c d) :
    Calls Tryd.prog 33 #[.int .u8 1, .pointer (some ⟨g, 0, none⟩)] w fun e w' => e = .returned (.tuple #[]) ∧ w.grownBy w' (some g) ∧ Pr w' g b a d c := by
  obtain ⟨la, lb, lc, ld⟩ := h.2
  have Sa := wcells_size la
  have Sb := wcells_size lb
  have Sc := wcells_size lc
  have Sd := wcells_size ld
  have Oa := wcells_one a
  have Ob' := wcells_one b
  have Oc := wcells_one c
  have Od := wcells_one d
  have Ca := wc8' la
  have Cb := wc8' lb
  have Cc := wc8' lc
  have Cd := wc8' ld
  replace h := Lib.hid h
  have h1 := Lib.hid (h.out.set0 lb)
  have h2 := Lib.hid (h1.out.set8 la)
  have g2 : Hid (w.grownBy ((w.setCells g 0 (wcells b)).setCells g 8 (wcells a)) (some g)) := grown_trans' grown_setCells grown_setCells
  go_enter Tryd.func33, Tryd.ntmps33
  go_upto_region 2 with (first
    | (refine wpList_load_mid rfl (ys := wcells b) rfl rfl h.out.at8 rfl rfl (by rw [Cb]; rfl) ?_; simp only [Act.put, List.setIfInBounds_toArray, List.set_cons_zero, List.set_cons_succ])
    | (refine wpList_load_mid rfl (ys := wcells a) rfl rfl h.out.at0 rfl rfl (by rw [Ca]; rfl) ?_; simp only [Act.put, List.setIfInBounds_toArray, List.set_cons_zero, List.set_cons_succ])
    | (refine wpList_store_mid rfl 57 _ _ rfl g 0 (wcells b).toArray rfl rfl (by rw [Sb]; exact h.out.there (by omega)) (by rw [Sb]; rfl) Ob' ?_; simp only [Act.put, List.setIfInBounds_toArray, List.set_cons_zero, List.set_cons_succ])
    | (refine wpList_store_mid rfl 57 _ _ rfl g 8 (wcells a).toArray rfl rfl (by rw [Sa]; exact h1.out.there (by omega)) (by rw [Sa]; rfl) Oa ?_; simp only [Act.put, List.setIfInBounds_toArray, List.set_cons_zero, List.set_cons_succ]))
  refine wp_gen (fun W => Pr W g b a c d ∧ w.grownBy W (some g)) ⟨h2.out, g2.out⟩ ?_
  clear h h1 h2 g2
  rintro w1 ⟨h, g1⟩
  replace h := Lib.hid h
  replace g1 := Lib.hid g1
  have h1 := Lib.hid (h.out.set16 ld)
  have h2 := Lib.hid (h1.out.set24 lc)
  have g2 : Hid (w.grownBy ((w1.setCells g 16 (wcells d)).setCells g 24 (wcells c)) (some g)) := grown_trans' g1.out (grown_trans' grown_setCells grown_setCells)
  go_wp2_with (first
    | (refine wpList_load_mid rfl (ys := wcells d) rfl rfl h.out.at24 rfl rfl (by rw [Cd]; rfl) ?_; simp only [Act.put, List.setIfInBounds_toArray, List.set_cons_zero, List.set_cons_succ])
    | (refine wpList_load_mid rfl (ys := wcells c) rfl rfl h.out.at16 rfl rfl (by rw [Cc]; rfl) ?_; simp only [Act.put, List.setIfInBounds_toArray, List.set_cons_zero, List.set_cons_succ])
    | (refine wpList_store_mid rfl 57 _ _ rfl g 16 (wcells d).toArray rfl rfl (by rw [Sd]; exact h.out.there (by omega)) (by rw [Sd]; rfl) Od ?_; simp only [Act.put, List.setIfInBounds_toArray, List.set_cons_zero, List.set_cons_succ])
    | (refine wpList_store_mid rfl 57 _ _ rfl g 24 (wcells c).toArray rfl rfl (by rw [Sc]; exact h1.out.there (by omega)) (by rw [Sc]; rfl) Oc ?_; simp only [Act.put, List.setIfInBounds_toArray, List.set_cons_zero, List.set_cons_succ]))
  go_end0
  exact ⟨rfl, g2.out, h2.out⟩
theorem exch_one' {x g : Nat} {a b c d : List Nat} {w : World} (hx : x = 1) (h : Pr w g a b c d) :
    Calls Tryd.prog 33 #[.int .u8 (x : Int), .pointer (some ⟨g, 0, none⟩)] w fun e w' => e = .returned (.tuple #[]) ∧ w.grownBy w' (some g) ∧ Pr w' g b a d c := by
  subst hx
  exact exch_one h
set_option maxHeartbeats 1000000 in
theorem exch_zero {x g : Nat} {w : World} (hx : x ≠ 1) :
    Calls Tryd.prog 33 #[.int .u8 (x : Int), .pointer (some ⟨g, 0, none⟩)] w fun e w' => e = .returned (.tuple #[]) ∧ w' = w := by
  have t : ((x : Int) == 1) = false := by simp; omega
  go_enter Tryd.func33, Tryd.ntmps33
  go_wp2_with fail
  go_end0
  exact ⟨rfl, rfl⟩
end Go.Proofs.YtadnmiedmcckkaaDoor
