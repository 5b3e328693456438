import Derived.Test.YtmnohmhhmaeljaaDoorCheck16
import Derived.Test.YtmnohmhhmaeljaaDoorPkE
import Derived.Test.YtmnohmhhmaeljaaDoorKeyEq
import Derived.Test.YtmnohmhhmaeljaaDoorPkI
/-
  Stamps whose tags are turned in a bit: plain mathematics.
-/
namespace Go.Proofs.YtmnohmhhmaeljaaDoor
open Go.ChangeShapes Go.WideShapes Go.ChangeAt Go.RowKit Go.Deep Go.Maps
set_option maxRecDepth 100000

theorem cells_flip16 {xs : List UInt8} {j k : Nat} (hj : j < xs.length) (hk : k < 8) : (cellsOf xs).set j (.int .u8 ((bt xs j ^^^ 2 ^ k : Nat) : Int)) = cellsOf (flip xs j k) := by
  apply List.ext_getElem?
  intro i
  simp only [List.getElem?_set, cellsOf_len]
  by_cases hi : i < xs.length
  · rw [cellsOf_get (xs := Go.Proofs.YtmnohmhhmaeljaaDoor.flip xs j k) (by rw [flip_len]; omega)]
    unfold Go.Proofs.YtmnohmhhmaeljaaDoor.flip
    rw [bt_set (by omega) (flip_lt hk)]
    by_cases e : j = i
    · subst e; simp [show j < xs.length by omega]
    · rw [if_neg e, if_neg (Ne.symm e)]
      have := cellsOf_get (xs := xs) (j := i) (by omega)
      simpa using this
  · have h1 : (cellsOf xs)[i]? = none := List.getElem?_eq_none (by rw [cellsOf_len]; omega)
    have h2 : (cellsOf (Go.Proofs.YtmnohmhhmaeljaaDoor.flip xs j k))[i]? = none := List.getElem?_eq_none (by rw [cellsOf_len, flip_len]; omega)
    rw [if_neg (by omega)]
    simp only [h2]
    simpa using h1
theorem st_flip {ep f t tm : Int} {cm tg : List UInt8} (lc : cm.length = 32) (lg : tg.length = 32) {i : Nat} (hi : i < 32) : (stC ep f t tm cm tg).set (36 + i) (.int .u8 ((bt tg i ^^^ 2 ^ 0 : Nat) : Int)) = stC ep f t tm cm (flip tg i 0) := by
  obtain ⟨_, h1, h2⟩ := st_parts (ep := ep) (f := f) (t := t) (tm := tm) (tg := tg) lc
  obtain ⟨_, h3, _⟩ := st_parts (ep := ep) (f := f) (t := t) (tm := tm) (tg := flip tg i 0) lc
  rw [h1, h3, List.set_append_right _ _ (by rw [h2]; omega), h2, Nat.add_sub_cancel_left, List.append_nil, List.append_nil, cells_flip16 (by omega) (by omega)]
theorem Cb.setAt {w : World} {g : Nat} {T : TypeId} {L : List Value} {j : Nat} {v : Value} (h : Cb w g T L) (hj : j < L.length) : Cb (w.setCell ⟨g, j, none⟩ v) g T (L.set j v) := by
  have := heap_setCells_row [v] j w L h (by simp; omega)
  have e2 : splice L j [v] = L.set j v := by
    have q := splice_cons L j v [] hj
    rw [← q]
    simp [splice]
  rw [e2] at this
  exact this
theorem win_facts {root : List UInt8} {n f t k j : Nat} {cm : List UInt8} (n1 : 1 ≤ n) (hf : f ≤ 7) (ht : t ≤ 7) (hk : k ≤ 900000) (hj : j ≤ 1000000) :
    mkS root n (f : Int) (t : Int) cm (k : Int) = ⟨((k / n : Nat) : Int), f, t, k, cm, tagL16 root (k / n) f t k cm⟩ ∧ mkE (f : Int) (t : Int) (k : Int) = 0 ∧
    chkE root n ⟨((k / n : Nat) : Int), f, t, k, cm, tagL16 root (k / n) f t k cm⟩ (j : Int) = (if (j : Int) < (k : Int) ∨ (k : Int) + 50 < (j : Int) then 5 else 0) ∧
    ∀ i, i < 32 → chkE root n ⟨((k / n : Nat) : Int), f, t, k, cm, flip (tagL16 root (k / n) f t k cm) i 0⟩ (j : Int) = 4 := by
  have up : ∀ (a b : Nat), a ≤ b → upB (a : Int) (b : Int) = true := fun a b h => by unfold upB; simp; omega
  have hd : k / n ≤ 1000000 := Nat.le_trans (Nat.div_le_self _ _) (by omega)
  have hm : mkOk (f : Int) (t : Int) (k : Int) = true := by
    unfold mkOk
    rw [show (1000000 : Int) = ((1000000 : Nat) : Int) from rfl, show (7 : Int) = ((7 : Nat) : Int) from rfl, up _ _ (show k ≤ 1000000 by omega), up _ _ hf, up _ _ ht]; rfl
  have hv : ∀ tg : List UInt8, (Sm.valid ⟨((k / n : Nat) : Int), f, t, k, cm, tg⟩ && upB (j : Int) 1000000) = true := fun tg => by
    unfold Sm.valid okS
    rw [show (1000000 : Int) = ((1000000 : Nat) : Int) from rfl, show (7 : Int) = ((7 : Nat) : Int) from rfl, up _ _ (show k ≤ 1000000 by omega), up _ _ hf, up _ _ ht, up _ _ hd, up _ _ hj]; rfl
  obtain ⟨_, M1⟩ := mk_facts (root := root) (ticks := n) (f := (f : Int)) (t := (t : Int)) (cm := cm) (now := (k : Int))
  obtain ⟨e1, e2⟩ := M1 hm
  refine ⟨e1, e2, ?_, fun i hi => ?_⟩
  · obtain ⟨_, _, _, C⟩ := chk_facts (root := root) (ticks := n) (s := ⟨((k / n : Nat) : Int), f, t, k, cm, tagL16 root (k / n) f t k cm⟩) (now := (j : Int))
    exact C (hv _) rfl rfl
  · obtain ⟨_, _, C, _⟩ := chk_facts (root := root) (ticks := n) (s := ⟨((k / n : Nat) : Int), f, t, k, cm, flip (tagL16 root (k / n) f t k cm) i 0⟩) (now := (j : Int))
    exact C (hv _) rfl (fun h => flip_ne (by rw [tagL16_len]; exact hi) (by omega) h)
end Go.Proofs.YtmnohmhhmaeljaaDoor
