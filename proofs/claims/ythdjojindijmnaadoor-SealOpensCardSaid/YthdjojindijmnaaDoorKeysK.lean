import Derived.Test.YthdjojindijmnaaDoorPkK
/-
  kdf.Keys.
-/
namespace Go.Proofs.YthdjojindijmnaaDoor
open Go.ChangeShapes Go.WideShapes Go.ChangeAt Go.RowKit Go.Deep

/-- The slice '.slice A n c' reads as these strings. -/
def Ss (w : World) (A : Option Addr) (n : Nat) (l : List (List UInt8)) : Prop :=
  l.length = n ∧ (0 < n → ∃ b off, A = some ⟨b, off, none⟩ ∧ b < w.heap.size ∧ ∀ j, j < n → w.cell? ⟨b, off + j, none⟩ = some (.string (strL (l.getD j []))))
theorem Ss.ext {w w' : World} {A : Option Addr} {n : Nat} {l : List (List UInt8)} (h : Ss w A n l) (e : Ext w w') : Ss w' A n l := ⟨h.1, fun h0 => by
  obtain ⟨b, off, q, hb, hc⟩ := h.2 h0
  exact ⟨b, off, q, Nat.lt_of_lt_of_le hb e.size, fun j hj => (e.cell hb).trans (hc j hj)⟩⟩
/-- Block g holds these keys. -/
def Kr (w : World) (g : Nat) (l : List (List UInt8)) : Prop := w.heap[g]? = some (.cells (cellsOf l.flatten).toArray 23 (0, 0)) ∧ ∀ x ∈ l, x.length = 32
def RetKs (l : List (List UInt8)) (w : World) (e : Ending) (w' : World) : Prop := ∃ g, e = .returned (.slice (some ⟨g, 0, none⟩) l.length l.length) ∧ w.heap.size ≤ g ∧ Kr w' g l ∧ Ext w w'
theorem Kr.ext {w w' : World} {g : Nat} {l : List (List UInt8)} (h : Kr w g l) (e : Ext w w') : Kr w' g l := ⟨(e.block g (heap_lt h.1)).trans h.1, h.2⟩
theorem flat_len {l : List (List UInt8)} (h : ∀ x ∈ l, x.length = 32) : l.flatten.length = 32 * l.length := by
  induction l with
  | nil => rfl
  | cons a l ih =>
    rw [List.flatten_cons, List.length_append, ih (fun x hx => h x (List.mem_cons_of_mem _ hx)), h a (List.mem_cons_self ..), List.length_cons]
    omega
/-- The j-th of them, byte by byte. -/
theorem flat_bt {l : List (List UInt8)} (h : ∀ x ∈ l, x.length = 32) {j i : Nat} (hj : j < l.length) (hi : i < 32) : bt l.flatten (32 * j + i) = bt (l.getD j []) i := by
  induction l generalizing j with
  | nil => simp at hj
  | cons a l ih =>
    have ha := h a (List.mem_cons_self ..)
    have hl : ∀ x ∈ l, x.length = 32 := fun x hx => h x (List.mem_cons_of_mem _ hx)
    cases j with
    | zero =>
      unfold bt
      simp only [List.flatten_cons, List.getD, Nat.mul_zero, Nat.zero_add, List.getElem?_cons_zero, Option.getD_some]
      rw [List.getElem?_append_left (by omega)]
    | succ j =>
      have := ih hl (j := j) (by simpa using hj)
      unfold bt at this ⊢
      simp only [List.flatten_cons, List.getD, List.getElem?_cons_succ] at this ⊢
      rw [List.getElem?_append_right (by omega), ha, show 32 * (j + 1) + i - 32 = 32 * j + i by omega]
      exact this
theorem Kr.cell {w : World} {g : Nat} {l : List (List UInt8)} (h : Kr w g l) {j i : Nat} (hj : j < l.length) (hi : i < 32) : w.cell? ⟨g, 32 * j + i, none⟩ = some (.int .u8 (bt (l.getD j []) i : Int)) := by
  rw [cell_of_row w g _ _ _ _ h.1, ← flat_bt h.2 hj hi]
  have hl := flat_len h.2
  have := cellsOf_get (xs := l.flatten) (j := 32 * j + i) (by omega)
  simpa using this
/-- .. as cells. -/
theorem Kr.row {w : World} {g : Nat} {l : List (List UInt8)} (h : Kr w g l) {j : Nat} (hj : j < l.length) : ∀ i v, (cellsOf (l.getD j []))[i]? = some v → w.cell? ⟨g, 32 * j + i, none⟩ = some v := fun i v hv => by
  have hx : (l.getD j []).length = 32 := h.2 _ (by simp [List.getD, hj])
  have hi : i < 32 := by
    have := (List.getElem?_eq_some_iff.1 hv).1
    rw [cellsOf_len] at this
    omega
  rw [cellsOf_get (by omega)] at hv
  rw [h.cell hj hi, hv]

theorem madeCells_key (n : Nat) : madeCells zeros32 (n * 32) = (cellsOf (List.replicate (32 * n) 0)).toArray := by
  have hz : ∀ j, j < 32 → zeros32[j]! = .int .u8 0 := fun j hj => by
    have h1 : zeros32[j]? = some (.int .u8 0) := by
      unfold zeros32
      rw [List.getElem?_toArray, List.getElem?_replicate, if_pos hj]
    rw [getElem!_def, h1]
  have hs := zeros32_size
  apply Array.ext
  · simp [madeCells, cellsOf_len]; omega
  · intro i h1 h2
    have hi : i < n * 32 := by simpa [madeCells] using h1
    have hb : bt (List.replicate (32 * n) (0 : UInt8)) i = 0 := by
      unfold bt
      simp [List.getD, List.getElem?_replicate, show i < 32 * n by omega]
    have hr := cellsOf_get (xs := List.replicate (32 * n) (0 : UInt8)) (j := i) (by simp; omega)
    rw [hb] at hr
    have hr2 : (cellsOf (List.replicate (32 * n) (0 : UInt8))).toArray[i] = .int .u8 0 := by
      have h3 := List.getElem?_eq_some_iff.1 hr
      simpa using h3.2
    rw [hr2]
    simp only [madeCells, Array.getElem_map, Array.getElem_range, hs]
    exact hz _ (Nat.mod_lt _ (by decide))
/-- make([]api.Key, n). -/
theorem makeK (n : Nat) (hn : n ≤ 1000000) (w : World) :
    (Instr.makeSlice 45 (.int .i64 (n : Int)) (.int .i64 (n : Int))).run Tryd.prog w = .ok (.slice (some ⟨w.heap.size, 0, none⟩) n n) (w.alloc (.cells (cellsOf (List.replicate (32 * n) 0)).toArray 23)) := by
  obtain ⟨i, hi, h0, h1, h2⟩ := info_parts infoK
  have := run_make (P := Tryd.prog) w 45 23 i (.agg zeros32) Tryd.underlying45 hi h0 .i64 .i64 (n : Int) (n : Int) (by omega) (by omega) (by rw [h2]; omega) (by omega)
  rw [this, h1]
  simp only [Int.toNat_natCast]
  rw [show (Value.agg zeros32).cells = zeros32 from rfl, madeCells_key]

def kfl (ks : List UInt8) (l : List (List UInt8)) (k : Nat) : List UInt8 := ((l.take k).map (keyL ks)).flatten
theorem kfl_len {ks : List UInt8} {l : List (List UInt8)} {k : Nat} (h : k ≤ l.length) : (kfl ks l k).length = 32 * k := by
  unfold kfl
  rw [flat_len (fun x hx => by obtain ⟨y, _, rfl⟩ := List.mem_map.1 hx; exact keyL_len _ _)]
  simp [Nat.min_eq_left h]
theorem kfl_step {ks : List UInt8} {l : List (List UInt8)} {k : Nat} (h : k < l.length) : kfl ks l (k + 1) = kfl ks l k ++ keyL ks (l.getD k []) := by
  unfold kfl
  rw [List.take_succ_eq_append_getElem h, List.map_append, List.flatten_append]
  simp only [List.map_cons, List.map_nil, List.flatten_cons, List.flatten_nil, List.append_nil, List.getD, List.getElem?_eq_getElem h, Option.getD_some]
theorem kfl_all {ks : List UInt8} {l : List (List UInt8)} : kfl ks l l.length = (l.map (keyL ks)).flatten := by
  unfold kfl; rw [List.take_length]
theorem kfl_put {ks : List UInt8} {l : List (List UInt8)} {k : Nat} (h : k < l.length) : splice (kfl ks l k ++ List.replicate (32 * (l.length - k)) 0) (32 * k) (keyL ks (l.getD k [])) = kfl ks l (k + 1) ++ List.replicate (32 * (l.length - (k + 1))) 0 := by
  have h1 := kfl_len (ks := ks) (Nat.le_of_lt h)
  have h2 := keyL_len ks (l.getD k [])
  unfold splice
  rw [List.take_left' h1, kfl_step h, List.drop_append, h2, h1, List.drop_of_length_le (by omega), List.nil_append, List.drop_replicate, List.append_assoc]
  congr 3
  omega

/-- The worlds of Keys. -/
def Kw (w wr : World) (ks X : List UInt8) : Prop := Ext w wr ∧ Ky wr w.heap.size ks ∧ wr.heap[w.heap.size + 1]? = some (.cells (cellsOf X).toArray 23 (0, 0))

set_option maxRecDepth 100000 in
set_option maxHeartbeats 2000000 in
theorem keys_calls {A : Option Addr} {n c : Nat} {ks : List UInt8} {l : List (List UInt8)} {w : World} (hk : ks.length = 32) (h : Ss w A n l) (hn : n ≤ 1000) (hp : ∀ j, (l.getD j []).length ≤ 1000000) {tg : TypeId × Nat × Nat} (hG : Gl w tg) :
    Calls Tryd.prog 43 #[.agg (cellsOf ks).toArray, .slice A n c] w (RetKs (l.map (keyL ks)) w) := by
  have hmk := makeK n (by omega)
  have HG := Lib.hid (fun W e => Gl.kept hG (w' := W) e hG.lt)
  clear hG
  have hln := h.1
  have H := Lib.hid h
  clear h
  have KW0 : Hid (Kw w ((w.alloc (Obj.cells (cellsOf ks).toArray 23)).alloc (Obj.cells (cellsOf (List.replicate (32 * n) 0)).toArray 23)) ks (kfl ks l 0 ++ List.replicate (32 * (n - 0)) 0)) :=
    ⟨((Ext.refl w).alloc _).alloc _, ⟨heap_alloc1 _ _ _, hk⟩, by
      rw [show kfl ks l 0 = [] from by unfold kfl; simp, List.nil_append, Nat.sub_zero]
      exact heap_alloc2 _ _ _⟩
  have KS : (cellsOf ks).toArray.size = 32 := by simp [cellsOf_len, hk]
  replace hp := Lib.hid hp
  replace hln := Lib.hid hln
  go_enter Tryd.func43, Tryd.ntmps43
  go_wp2_with fail
  go_loopw [15] (fun v wr => ∃ k : Nat, v = .int .i64 (k : Int) ∧ k ≤ n ∧ Kw w wr ks (kfl ks l k ++ List.replicate (32 * (n - k)) 0)) (fun v _ => n - (intOf v).toNat)
  case atStart => exact ⟨0, rfl, Nat.zero_le _, KW0.out⟩
  case round =>
    obtain ⟨k, rfl, hkn, kw⟩ := hrel
    clear KW0 hmk
    have hE := Lib.hid kw.1
    have hKy := Lib.hid kw.2.1
    have hR := Lib.hid kw.2.2
    by_cases hlt : k < n
    · obtain ⟨b, off, rfl, hb, hc⟩ := (H.out.ext hE.out).2 (by omega)
      have ck := hc k hlt
      clear hc
      have P1 := hp.out k
      obtain ⟨s, hs⟩ : ∃ s, s = l.getD k [] := ⟨_, rfl⟩
      rw [← hs] at ck P1
      replace hs := Lib.hid hs
      have SPREAD : Hid (Calls Tryd.prog 54 #[.agg (cellsOf ks).toArray, .string (strL s), .int .i64 32] wr (RetBsE (keyL ks s) 0 wr)) := by
        have h9 := spread_calls (m := 32) hk P1 (by omega) (HG.out _ hE.out)
        rw [spreadL_32] at h9
        exact h9
      clear kw
      go_wp2_with (refine wpList_load_row rfl 23 _ rfl w.heap.size rfl 23 (cellsOf ks).toArray (0, 0) _ hKy.out.1 rfl rfl (by rw [KS]; rfl) ?_; simp only [Act.put, List.setIfInBounds_toArray, List.set_cons_zero, List.set_cons_succ])
      refine SPREAD.out.mono ?_
      rintro e w1 ⟨A1, n1, c1, rfl, b1, e1⟩
      have n32 : n1 = 32 := by rw [← b1.len, keyL_len]
      subst n32
      have hR1 : w1.heap[w.heap.size + 1]? = _ := (e1.block _ (heap_lt hR.out)).trans hR.out
      replace hR1 := Lib.hid hR1
      replace b1 := Lib.hid b1
      have hE1 := Lib.hid (hE.out.trans e1)
      have hKy1 := Lib.hid (hKy.out.ext e1)
      clear SPREAD hR hE hKy e1 
      go_wp2_with fail
      have XL : (kfl ks l k ++ List.replicate (32 * (n - k)) 0).length = 32 * n := by rw [List.length_append, kfl_len (by have := hln.out; omega), List.length_replicate]; omega
      refine upon_copy (cur := cellsOf (kfl ks l k ++ List.replicate (32 * (n - k)) 0)) rfl hR1.out b1.out (Nat.le_refl _) (by rw [cellsOf_len, XL]; omega) ?_
      intro W' h1 h2
      have hE2 : Hid (Ext w W') := Below.trans hE1.out (h2.out w.heap.size (by omega))
      have hK2 : Hid (Ky W' w.heap.size ks) := ⟨((h2.out (w.heap.size + 1) (Nat.le_refl _)).block w.heap.size (by omega)).trans hKy1.out.1, hk⟩
      rw [cellsOf_splice, hs.out, show k * 32 = 32 * k by omega] at h1
      have hpt := kfl_put (ks := ks) (l := l) (k := k) (by have := hln.out; omega)
      rw [hln.out] at hpt
      rw [hpt] at h1
      clear hpt h2 XL hR1 b1 hE1 hKy1
      go_wp2_with fail
      exact ⟨⟨k + 1, by go_num, by omega, hE2.out, hK2.out, h1.out⟩, by simp [intOf]; omega⟩
    · obtain rfl : k = n := by omega
      clear kw
      go_wp2_with fail
      go_ret
      refine ⟨w.heap.size + 1, ?_, by omega, ⟨?_, fun x hx => by obtain ⟨y, _, rfl⟩ := List.mem_map.1 hx; exact keyL_len _ _⟩, hE.out⟩
      · rw [List.length_map, hln.out]; rfl
      · have := hR.out
        rw [Nat.sub_self, Nat.mul_zero, List.replicate_zero, List.append_nil] at this
        rw [← kfl_all, hln.out]
        exact this
end Go.Proofs.YthdjojindijmnaaDoor
