/-
  skips.New, Len, Take.
-/
import Derived.Test.YtonjialkfbbhpaaSkS
namespace Go.Proofs.Ytonjialkfbbhpaa
open Go.ChangeShapes Go.WideShapes Go.ChangeAt Go.RowKit Go.Deep Go.Maps
set_option maxRecDepth 100000

theorem snew_calls {w : World} : Calls Try.prog 13 #[] w fun e w' => ∃ g b, e = .returned (.pointer (some ⟨g, 0, none⟩)) ∧ w.heap.size ≤ g ∧ w.heap.size ≤ b ∧ SK w' g b [] 0 ∧ Ext w w' := by
  have hmm := @run_makeMap Try.prog
  have hbz : Hid (∀ b, Try.prog.built 80 [(0, .map (some b))] = some #[.map (some b), .int .i64 0]) := fun b => by kernel_rfl
  have S1 : Hid (Mp Try.prog 82 (w.alloc (.map #[] 0)) w.heap.size [] ∧ Ext w (w.alloc (.map #[] 0))) := ⟨Mp.made _ _ _, (Ext.refl w).alloc _⟩
  obtain ⟨b, hb⟩ : ∃ b, b = w.heap.size := ⟨_, rfl⟩
  go_enter Try.func13, Try.ntmps13
  rw [← hb] at S1
  have hbb := hbz.out b
  have sb : w.heap.size ≤ b := Nat.le_of_eq hb.symm
  go_wp2_with (refine wpList_build_as rfl _ _ rfl #[.map (some b), .int .i64 0] (by simp only [List.map_toArray, List.map_cons, List.map_nil]; first | exact hbb | (rw [← hb]; exact hbb)) ?_; simp only [Act.put, List.setIfInBounds_toArray, List.set_cons_zero, List.set_cons_succ])
  go_ret
  subst hb
  have C1 : Cb ((w.alloc (.map #[] 0)).alloc (.cells #[.map (some w.heap.size), .int .i64 0] 80)) (w.heap.size + 1) 80 [.map (some w.heap.size), .int .i64 0] := by
    have := Cb.new (w.alloc (.map #[] 0)) 80 [.map (some w.heap.size), .int .i64 0]
    rwa [show (w.alloc (.map #[] 0)).heap.size = w.heap.size + 1 by simp] at this
  refine ⟨_, w.heap.size, rfl, ?_, sb, ⟨C1, S1.out.1.ext ((Ext.refl _).alloc _), (fun x hx => by cases hx), List.Pairwise.nil, (fun x hx => by cases hx), Int.le_refl _⟩, S1.out.2.alloc _⟩
  omega
theorem slen_calls {w : World} {g b : Nat} {L : List Kp} {puts : Int} (h : SK w g b L puts) : Calls Try.prog 19 #[.pointer (some ⟨g, 0, none⟩)] w fun e w' => e = .returned (.int .i64 (L.length : Int)) ∧ Ext w w' := by
  have c0 := h.cb.cell (j := 0) rfl
  have hl := fun ty => h.mp.len Try.underlying78 ty
  rw [List.length_map] at hl
  clear h
  go_enter Try.func19, Try.ntmps19
  go_wp2_with (refine wpList_of_wp rfl fun K hK => ?_; refine wp_call_len rfl rfl (hl 0) ?_; refine hK _ _ ?_; simp only [Act.put, List.setIfInBounds_toArray, List.set_cons_zero, List.set_cons_succ])
  go_ret
  exact ⟨rfl, Ext.refl w⟩
end Go.Proofs.Ytonjialkfbbhpaa
