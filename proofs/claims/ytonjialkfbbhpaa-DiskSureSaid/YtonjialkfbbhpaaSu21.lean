/-
  What a disk reads behind writes, syncs and crashes; arrays of sectors.
-/
import Derived.Test.YtonjialkfbbhpaaAwake21
namespace Go.Proofs.Ytonjialkfbbhpaa
open Go.ChangeShapes Go.WideShapes Go.ChangeAt Go.RowKit Go.Deep Go.Maps
set_option maxRecDepth 100000

/-- A disk of m sectors that has power, and no fuse. -/
def Up (d : Ds) (m : Nat) : Prop := d.S.length = m ∧ d.hf = false ∧ d.dd = false
section
variable {d : Ds} {m : Nat}
theorem Up.fails (h : Up d m) : d.fails = false := by unfold Ds.fails; rw [h.2.1, h.2.2]; rfl
theorem Up.burn (h : Up d m) : d.burn = d := by
  unfold Ds.burn
  rw [h.fails, if_neg (by decide), h.2.1, if_neg (by decide)]
theorem Up.sync (h : Up d m) : d.sync = d.flush ∧ d.syncE = 0 := by
  unfold Ds.sync Ds.syncE
  rw [h.fails, if_neg (by decide), if_neg (by decide), h.burn]
  exact ⟨rfl, rfl⟩
theorem Up.flush (h : Up d m) : Up d.flush m := ⟨by simp [Ds.flush, h.1], h.2.1, h.2.2⟩
theorem Up.write (h : Up d m) (i : Int) (xs : List UInt8) : Up (d.write i xs) m := by
  unfold Ds.write
  split
  · rw [h.fails, if_neg (by decide), h.burn]; exact h
  · exact h
theorem Up.new (h : 1 ≤ m) : Up (newD m) m := ⟨by simp [newD], rfl, rfl⟩
theorem Up.write_in (h : Up d m) {k : Nat} (hk : k < m) (xs : List UInt8) : d.write (k : Int) xs = d.put k xs ∧ d.writeE (k : Int) = 0 := by
  have hin : 0 ≤ (k : Int) ∧ (k : Int) < (d.S.length : Int) := ⟨by omega, by rw [h.1]; omega⟩
  unfold Ds.write Ds.writeE
  rw [if_pos hin, if_pos hin, h.fails, if_neg (by decide), if_neg (by decide), h.burn, Int.toNat_natCast]
  exact ⟨rfl, rfl⟩
theorem Up.write_out (h : Up d m) {i : Int} (hi : ¬ (0 ≤ i ∧ i < (m : Int))) (xs : List UInt8) : d.write i xs = d ∧ d.writeE i = 1 := by
  have hin : ¬ (0 ≤ i ∧ i < (d.S.length : Int)) := by rw [h.1]; exact hi
  unfold Ds.write Ds.writeE
  rw [if_neg hin, if_neg hin]
  exact ⟨rfl, rfl⟩
theorem Up.read (h : Up d m) {k : Nat} (hk : k < m) : d.read (k : Int) = (d.N k).getD (d.S.getD k []) ∧ d.readE (k : Int) = 0 := by
  have hin : 0 ≤ (k : Int) ∧ (k : Int) < (d.S.length : Int) := ⟨by omega, by rw [h.1]; omega⟩
  unfold Ds.read Ds.readE
  rw [if_pos hin, if_pos hin, Int.toNat_natCast]
  exact ⟨rfl, rfl⟩
theorem Up.read_flush (h : Up d m) {k : Nat} (hk : k < m) : d.flush.read (k : Int) = d.read (k : Int) := by
  rw [(h.flush.read hk).1, (h.read hk).1]
  show ((List.range d.S.length).map _).getD k [] = _
  rw [List.getD_eq_getElem?_getD, List.getElem?_map, List.getElem?_range (by rw [h.1]; exact hk)]
  rfl
theorem Up.read_put (h : Up d m) {k j : Nat} (hj : j < m) (xs : List UInt8) : (d.put k xs).read (j : Int) = if j = k then xs else d.read (j : Int) := by
  have h' : Up (d.put k xs) m := h
  rw [(h'.read hj).1, (h.read hj).1]
  show (if j = k then some xs else d.N j).getD (d.S.getD j []) = _
  split <;> rfl
theorem crash_up (h : d.S.length = m) (kept : Nat) : Up (d.crash kept) m := ⟨(crash_S d kept).trans h, rfl, rfl⟩
theorem crS_out {kept : Nat} {P : List Nat} {i : Nat} (hi : i ∉ P) : ∀ k, k ≤ P.length → (d.crS kept P k).getD i [] = d.S.getD i []
  | 0, _ => rfl
  | k + 1, hk => by
    rw [Ds.crS]
    split
    · have q : ¬ P.getD k 0 = i := fun e => hi (by
        rw [← e, List.getD_eq_getElem?_getD, List.getElem?_eq_getElem (by omega), Option.getD_some]
        exact List.getElem_mem _)
      rw [List.getD_eq_getElem?_getD, List.getElem?_set_ne q, ← List.getD_eq_getElem?_getD]
      exact crS_out hi k (by omega)
    · exact crS_out hi k (by omega)
theorem ones_bit : ∀ j, j < 64 → 18446744073709551615 / 2 ^ j % 2 = 1 := by decide +kernel
theorem crash_read (h : d.S.length = m) {kept k : Nat} (hk : k < m) : (d.crash kept).read (k : Int) = (d.crS kept (d.pend d.S.length) (d.pend d.S.length).length).getD k [] ∧ (d.crash kept).readE (k : Int) = 0 := by
  obtain ⟨h1, h2⟩ := (crash_up h kept).read hk
  exact ⟨h1, h2⟩
theorem Up.crash_ones (h : Up d m) (m64 : m ≤ 64) {k : Nat} (hk : k < m) : (d.crash 18446744073709551615).read (k : Int) = d.read (k : Int) := by
  rw [(crash_read h.1 hk).1, (h.read hk).1]
  have pl := pend_len d d.S.length
  by_cases q : k ∈ d.pend d.S.length
  · have e := crS_all (d := d) (m := d.S.length) ones_bit _ (Nat.le_refl _) (by rw [h.1] at pl ⊢; omega) k (by rw [List.take_length]; exact q) (by rw [h.1]; exact hk)
    rw [e]
    obtain ⟨y, hy⟩ := Option.isSome_iff_exists.1 (pend_mem.1 q).2
    rw [hy]
    rfl
  · rw [crS_out q _ (Nat.le_refl _)]
    cases z : d.N k
    · rfl
    · exact absurd (pend_mem.2 ⟨by rw [h.1]; exact hk, by rw [z]; rfl⟩) q
theorem Up.crash_none (h : Up d m) {k : Nat} (hk : k < m) : (d.crash 0).read (k : Int) = d.S.getD k [] := by
  rw [(crash_read h.1 hk).1, crS_none]
theorem Up.crash_one (h : Up d m) {kept k : Nat} (hk : k < m) : (d.crash kept).read (k : Int) = d.S.getD k [] ∨ (d.crash kept).read (k : Int) = d.read (k : Int) := by
  rw [(crash_read h.1 hk).1, (h.read hk).1]
  rcases crS_at (d := d) (kept := kept) (m := d.S.length) k _ (Nat.le_refl _) with q | ⟨s, h1, h2⟩
  · exact .inl q
  · right
    rw [h2, h1]
    rfl
theorem write_S (h : Up d m) (i : Int) (xs : List UInt8) : (d.write i xs).S = d.S := by
  unfold Ds.write
  split
  · rw [h.fails, if_neg (by decide), h.burn]; rfl
  · rfl
theorem crash_pend (d : Ds) (kept : Nat) : (d.crash kept).pend (d.crash kept).S.length = [] := by
  unfold Ds.pend
  rw [List.filter_eq_nil_iff]
  intro i _
  show ¬ (none : Option (List UInt8)).isSome = true
  decide
end
/-- Eight sectors of noughts. -/
def z8 : List (List UInt8) := List.replicate 8 (List.replicate 64 0)
theorem z8_cells : (z8.map cellsOf).flatten = (List.replicate 8 zS64).flatten := by simp [z8, zS64]
theorem z8_len : ∀ s ∈ z8, s.length = 64 := fun s hs => by rw [List.eq_of_mem_replicate hs]; rfl
theorem want_alloc (w : World) : (zeroValue 73).run Try.prog w = .ok (.agg (z8.map cellsOf).flatten.toArray) w := by
  rw [z8_cells]
  kernel_rfl
theorem getD_set8 {W : List (List UInt8)} {k j : Nat} {xs : List UInt8} (hk : k < W.length) : (W.set k xs).getD j [] = if j = k then xs else W.getD j [] := by
  by_cases q : j = k
  · subst q
    rw [if_pos rfl, List.getD_eq_getElem?_getD, List.getElem?_set_self hk]; rfl
  · rw [if_neg q, List.getD_eq_getElem?_getD, List.getElem?_set_ne (fun z => q z.symm), ← List.getD_eq_getElem?_getD]
theorem mem_set8 {W : List (List UInt8)} {k : Nat} {xs : List UInt8} (hW : ∀ s ∈ W, s.length = 64) (hx : xs.length = 64) : ∀ s ∈ W.set k xs, s.length = 64 := fun s hs => by
  rcases List.mem_or_eq_of_mem_set hs with q | q
  · exact hW s q
  · rw [q]; exact hx
theorem read_len21 {d : Ds} (ok : d.ok) (i : Int) : (d.read i).length = 64 := by
  unfold Ds.read
  split
  · rename_i h
    have hl : i.toNat < d.S.length := by omega
    cases q : d.N i.toNat
    · rw [show (none : Option (List UInt8)).getD (d.S.getD i.toNat []) = d.S.getD i.toNat [] from rfl, List.getD_eq_getElem?_getD, List.getElem?_eq_getElem hl, Option.getD_some]
      exact ok.sl _ (List.getElem_mem hl)
    · exact (ok.nl _ _ q).1
  · rfl
end Go.Proofs.Ytonjialkfbbhpaa
