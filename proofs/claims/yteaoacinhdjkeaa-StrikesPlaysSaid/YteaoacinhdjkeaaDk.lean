/-
  The state of a disk; disk.New, has, burn, Fuse.
-/
import Derived.Test.YteaoacinhdjkeaaMpS
import Derived.Test.YteaoacinhdjkeaaFillS
import Derived.Test.YteaoacinhdjkeaaOwnC
namespace Go.Proofs.Yteaoacinhdjkeaa
open Go.ChangeShapes Go.WideShapes Go.ChangeAt Go.RowKit Go.Deep Go.Maps
set_option maxRecDepth 100000

/-- A disk: what is sure, what is not, the fuse, whether there is power. -/
structure Ds where
  S : List (List UInt8)
  N : Nat → Option (List UInt8)
  hf : Bool
  f : Int
  dd : Bool
def Ds.ent (d : Ds) : List (Value × Value) := entN d.S.length fun i => (d.N i).map fun s => .agg (cellsOf s).toArray
structure Ds.ok (d : Ds) : Prop where
  low : 1 ≤ d.S.length
  most : d.S.length ≤ 64
  sl : ∀ s ∈ d.S, s.length = 64
  nl : ∀ i s, d.N i = some s → s.length = 64 ∧ i < d.S.length
  fl : 0 ≤ d.f ∧ d.f ≤ 9223372036854775807
def Ds.cells (d : Ds) (r b : Nat) : List Value := [.slice (some ⟨r, 0, none⟩) d.S.length d.S.length, .map (some b), .bool d.hf, .int .i64 d.f, .bool d.dd]
/-- The disk at block g, its sectors in block r, its map in block b. -/
structure DK (w : World) (g r b : Nat) (d : Ds) : Prop where
  cb : Cb w g 86 (d.cells r b)
  row : Cb w r 45 (d.S.map cellsOf).flatten
  mp : Mp Try.prog 3 w b d.ent
  ok : d.ok
section
variable {w w' : World} {g r b : Nat} {d : Ds}
theorem DK.stay (h : DK w g r b d) (hg : w'.heap[g]? = w.heap[g]?) (hr : w'.heap[r]? = w.heap[r]?) (hb : w'.heap[b]? = w.heap[b]?) : DK w' g r b d := ⟨hg.trans h.cb, hr.trans h.row, h.mp.stay hb, h.ok⟩
theorem DK.ext (h : DK w g r b d) (x : Ext w w') : DK w' g r b d := h.stay (x.block _ h.cb.lt) (x.block _ h.row.lt) (x.block _ h.mp.lt)
theorem DK.gr (h : DK w g r b d) : g ≠ r := fun e => by
  have h1 := h.cb
  have h2 := h.row
  rw [← e] at h2
  unfold Cb at h1 h2
  rw [h1] at h2
  injection h2 with h2
  injection h2 with _ h2
  exact absurd h2 (by decide)
theorem DK.gb (h : DK w g r b d) : g ≠ b := fun e => by
  obtain ⟨es, c, q⟩ := h.mp.obj
  have h1 := h.cb
  unfold Cb at h1
  rw [e, q] at h1
  cases h1
theorem DK.rb (h : DK w g r b d) : r ≠ b := fun e => by
  obtain ⟨es, c, q⟩ := h.mp.obj
  have h1 := h.row
  unfold Cb at h1
  rw [e, q] at h1
  cases h1
end
theorem int_law : Keyed Try.prog 3 := int_keyed Try.underlying3
def zS64 : List Value := cellsOf (List.replicate 64 0)
theorem zS64_len : zS64.length = 64 := by kernel_rfl
theorem sector_alloc (w : World) : (zeroValue 45).run Try.prog w = .ok (.agg zS64.toArray) w := by kernel_rfl
theorem infoS : (Try.prog.info? 45).map (fun i => (i.zero, i.size, i.bytes)) = some (some (.agg zS64.toArray), 64, (Try.prog.info? 45).elim 0 (·.bytes)) := by kernel_rfl
theorem bytesDk : (Try.prog.info? 45).elim 0 (·.bytes) ≤ 1000000 := by decide +kernel
theorem flatten_len64 {α : Type} {s : Nat} : ∀ {L : List (List α)}, (∀ x ∈ L, x.length = s) → L.flatten.length = L.length * s
  | [], _ => by simp
  | x :: L, h => by
    rw [List.flatten_cons, List.length_append, h x (List.mem_cons_self ..), flatten_len64 fun y hy => h y (List.mem_cons_of_mem _ hy), List.length_cons, Nat.add_mul]
    omega
theorem madeCells_flat64 {Z : List Value} {s : Nat} (hs : Z.length = s) (hz : 0 < s) (n : Nat) : madeCells Z.toArray (n * s) = (List.replicate n Z).flatten.toArray := by
  have hl : (List.replicate n Z).flatten.length = n * s := by rw [flatten_len64 (s := s) (fun x hx => by rw [List.eq_of_mem_replicate hx]; exact hs), List.length_replicate]
  apply Array.ext
  · rw [size_madeCells, List.size_toArray, hl]
  · intro i h1 h2
    rw [size_madeCells] at h1
    have hj : i / s < n := Nat.div_lt_of_lt_mul (by rw [Nat.mul_comm]; exact h1)
    have hr := Nat.mod_lt i hz
    have e : i / s * s + i % s = i := by rw [Nat.mul_comm]; exact Nat.div_add_mod i s
    have q := flat_at (L := List.replicate n Z) (s := s) (fun x hx => by rw [List.eq_of_mem_replicate hx]; exact hs) (j := i / s) (i := i % s) (by rw [List.length_replicate]; exact hj) hr
    rw [e, List.getD_eq_getElem?_getD, List.getElem?_replicate, if_pos hj, Option.getD_some, List.getElem?_eq_getElem (by rw [hl]; exact h1), List.getElem?_eq_getElem (by rw [hs]; exact hr)] at q
    simp only [madeCells, Array.getElem_map, Array.getElem_range, List.size_toArray, hs]
    rw [getElem!_pos _ _ (by simp [hs]; exact hr)]
    simp only [List.getElem_toArray]
    exact (Option.some.inj q).symm
theorem makeS (n : Nat) (hn : n ≤ 1000) (w : World) :
    (Instr.makeSlice 83 (.int .i64 (n : Int)) (.int .i64 (n : Int))).run Try.prog w = .ok (.slice (some ⟨w.heap.size, 0, none⟩) n n) (w.alloc (.cells (List.replicate n zS64).flatten.toArray 45)) := by
  obtain ⟨i, hi, h0, h1, h2⟩ := info_parts infoS
  have hb := bytesDk
  have hle : n * i.bytes ≤ 1000 * 1000000 := Nat.mul_le_mul hn (by rw [h2]; exact hb)
  have h4 : (i.bytes : Int) * (n : Int) ≤ 281474976710656 := by
    have h3 : ((n * i.bytes : Nat) : Int) ≤ 1000000000 := by omega
    rw [Int.natCast_mul, Int.mul_comm] at h3
    omega
  have := run_make (P := Try.prog) w 83 45 i (.agg zS64.toArray) Try.underlying83 hi h0 .i64 .i64 (n : Int) (n : Int) (by omega) (by omega) (by first | exact h4 | omega) (by omega)
  rw [this]
  simp only [Int.toNat_natCast]
  rw [h1, show (Value.agg zS64.toArray).cells = zS64.toArray from rfl, madeCells_flat64 zS64_len (by omega)]
/-- A new disk. -/
def newD (n : Nat) : Ds := ⟨List.replicate n (List.replicate 64 0), fun _ => none, false, 0, false⟩
theorem newD_ok {n : Nat} (h : 1 ≤ n) (h' : n ≤ 64) : (newD n).ok := ⟨by simpa [newD] using h, by simpa [newD] using h', (fun s hs => by rw [List.eq_of_mem_replicate hs]; rfl), (fun i s h => by cases h), by simp [newD]⟩
theorem newD_ent (n : Nat) : (newD n).ent = [] := by
  unfold Ds.ent entN newD
  rw [List.filterMap_eq_nil_iff]
  intro i _
  rfl
theorem dnew_bad {w : World} {z : Int} (h : z < 1 ∨ 64 < z) : Calls Try.prog 12 #[.int .i64 z] w fun e w' => e = .returned (.tuple #[.pointer none, .int .i64 1]) ∧ Ext w w' := by
  by_cases h1 : z < 1
  · have u1 : decide (z < 1) = true := decide_eq_true h1
    clear h
    go_enter Try.func12, Try.ntmps12
    go_wp2_with fail
    go_ret2
    exact ⟨rfl, Ext.refl w⟩
  · have u1 : decide (z < 1) = false := decide_eq_false h1
    have h2 : 64 < z := h.resolve_left h1
    have u2 : decide (64 < z) = true := decide_eq_true h2
    clear h
    go_enter Try.func12, Try.ntmps12
    go_wp2_with fail
    go_ret2
    exact ⟨rfl, Ext.refl w⟩
theorem dnew_ok {w : World} {n : Nat} (n1 : 1 ≤ n) (n64 : n ≤ 64) :
    Calls Try.prog 12 #[.int .i64 (n : Int)] w fun e w' => ∃ (g r b : Nat), e = .returned (.tuple #[.pointer (some ⟨g, 0, none⟩), .int .i64 0]) ∧ w.heap.size ≤ g ∧ w.heap.size ≤ r ∧ w.heap.size ≤ b ∧ DK w' g r b (newD n) ∧ Ext w w' := by
  have u1 : decide ((n : Int) < 1) = false := decide_eq_false (by omega)
  have u2 : decide (64 < (n : Int)) = false := decide_eq_false (by omega)
  have hmk := makeS n (by omega) w
  have hmm := @run_makeMap Try.prog
  obtain ⟨C, hC⟩ : ∃ C, C = (List.replicate n zS64).flatten := ⟨_, rfl⟩
  rw [← hC] at hmk
  have hb : Try.prog.built 86 [(0, .slice (some ⟨w.heap.size, 0, none⟩) n n), (1, .map (some (w.heap.size + 1)))] = some #[.slice (some ⟨w.heap.size, 0, none⟩) n n, .map (some (w.heap.size + 1)), .bool false, .int .i64 0, .bool false] := by kernel_rfl
  have FIN : Hid (DK (((w.alloc (.cells C.toArray 45)).alloc (.map #[] 0)).alloc (.cells #[.slice (some ⟨w.heap.size, 0, none⟩) n n, .map (some (w.heap.size + 1)), .bool false, .int .i64 0, .bool false] 86)) (w.heap.size + 1 + 1) w.heap.size (w.heap.size + 1) (newD n) ∧ Ext w (((w.alloc (.cells C.toArray 45)).alloc (.map #[] 0)).alloc (.cells #[.slice (some ⟨w.heap.size, 0, none⟩) n n, .map (some (w.heap.size + 1)), .bool false, .int .i64 0, .bool false] 86))) := by
    have m1 := Mp.made (w.alloc (.cells C.toArray 45)) Try.prog 3
    rw [show (w.alloc (.cells C.toArray 45)).heap.size = w.heap.size + 1 by simp] at m1
    have c1 := Cb.new ((w.alloc (.cells C.toArray 45)).alloc (.map #[] 0)) 86 ((newD n).cells w.heap.size (w.heap.size + 1))
    rw [show ((w.alloc (.cells C.toArray 45)).alloc (.map #[] 0)).heap.size = w.heap.size + 1 + 1 by simp] at c1
    have ec : ((newD n).cells w.heap.size (w.heap.size + 1)) = [.slice (some ⟨w.heap.size, 0, none⟩) n n, .map (some (w.heap.size + 1)), .bool false, .int .i64 0, .bool false] := by simp [Ds.cells, newD]
    have eS : ((newD n).S.map cellsOf).flatten = C := by rw [hC]; simp [newD, zS64]
    refine ⟨⟨?_, ?_, ?_, newD_ok n1 n64⟩, (((Ext.refl w).alloc _).alloc _).alloc _⟩
    · rw [ec] at c1 ⊢; exact c1
    · rw [eS]; exact (Cb.new w _ C).ext (((Ext.refl _).alloc _).alloc _)
    · rw [newD_ent]; exact m1.ext ((Ext.refl _).alloc _)
  replace hC := Lib.hid (fun _ : Unit => hC)
  go_enter Try.func12, Try.ntmps12
  go_wp2_with (refine wpList_build_as rfl _ _ rfl #[.slice (some ⟨w.heap.size, 0, none⟩) n n, .map (some (w.heap.size + 1)), .bool false, .int .i64 0, .bool false] (by simp only [List.map_toArray, List.map_cons, List.map_nil]; exact hb) ?_; go_frame)
  go_ret2
  exact ⟨_, _, _, rfl, by omega, Nat.le_refl _, by omega, FIN.out⟩
end Go.Proofs.Yteaoacinhdjkeaa
