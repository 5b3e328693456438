import Derived.Test.YteaoacinhdjkeaaSeqZ
import Derived.Test.YteaoacinhdjkeaaBase
import Derived.Laws.CopyOwn
import Derived.Laws.ResultCell
section
/-
  package blake: mixing words (mix), over a row of 16 words.
-/
namespace Go.Proofs.Yteaoacinhdjkeaa
open Go.ChangeShapes Go.WideShapes Go.ChangeAt Go.RowKit Go.Deep

/-- The word at place k. -/
def wd (vs : List Nat) (k : Nat) : Nat := vs.getD k 0
/-- Block g holds the words vs, and may be written. -/
def Arr (w : World) (g : Nat) (vs : List Nat) : Prop :=
  g < w.heap.size ∧ ∀ i, i < vs.length → w.cell? ⟨g, i, none⟩ = some (.int .u32 (wd vs i : Int)) ∧ w.frozen? ⟨g, i, none⟩ = false ∧ wd vs i < 4294967296

def add32 (a b : Nat) : Nat := (a + b) % 4294967296
/-- The word turned right by n bits. -/
def rotr (n x : Nat) : Nat := (x * 2 ^ (32 - n)) % 4294967296 ||| x / 2 ^ n

theorem add32_lt (a b : Nat) : add32 a b < 4294967296 := Nat.mod_lt _ (by omega)
theorem rotr_lt {n x : Nat} (h : x < 4294967296) : rotr n x < 4294967296 := by
  unfold rotr
  exact Nat.or_lt_two_pow (n := 32) (Nat.mod_lt _ (by omega)) (Nat.lt_of_le_of_lt (Nat.div_le_self _ _) h)
theorem wd_set {vs : List Nat} {k i x : Nat} (hk : k < vs.length) : wd (vs.set k x) i = if i = k then x else wd vs i := by
  unfold wd
  by_cases h : i = k
  · subst h; simp [List.getD, hk]
  · simp [List.getD, h, List.getElem?_set_ne (Ne.symm h)]

section
variable {w w' : World} {g : Nat} {vs : List Nat}
theorem Arr.ext (h : Arr w g vs) (he : Ext w w') : Arr w' g vs :=
  ⟨Nat.lt_of_lt_of_le h.1 he.size, fun i hi => ⟨(he.cell h.1).trans (h.2 i hi).1, (Below.frozen he (p := ⟨g, i, none⟩) h.1).trans (h.2 i hi).2.1, (h.2 i hi).2.2⟩⟩
theorem frozen_setCell (w : World) (p q : Addr) (u : Value) : (w.setCell p u).frozen? q = w.frozen? q := by
  simp only [World.frozen?, World.setCell, Array.getElem?_modify]
  by_cases h : p.block = q.block
  · rw [if_pos h]
    cases w.heap[q.block]? with
    | none => rfl
    | some o => cases o <;> rfl
  · rw [if_neg h]
theorem Arr.set {k x : Nat} (h : Arr w g vs) (hk : k < vs.length) (hx : x < 4294967296) : Arr (w.setCell ⟨g, k, none⟩ (.int .u32 (x : Int))) g (vs.set k x) := by
  refine ⟨by simpa [World.setCell] using h.1, fun i hi => ?_⟩
  rw [List.length_set] at hi
  obtain ⟨h1, h2, h3⟩ := h.2 i hi
  rw [wd_set hk, frozen_setCell]
  by_cases e : i = k
  · subst e
    simp only [if_true]
    exact ⟨World.cell?_setCell_same _ _ _ h1, h2, hx⟩
  · simp only [if_neg e]
    refine ⟨?_, h2, h3⟩
    rw [World.cell?_setCell_other _ _ _ _ (fun q => e (by injection q with _ q2 _; exact q2.symm))]
    exact h1
end
theorem wp_gen {P : Program} {c : Code} {Q : Exit → Act → World → Prop} {a : Act} {W : World} (ψ : World → Prop) (h1 : ψ W) (h2 : ∀ w1, ψ w1 → Code.wp P c Q a w1) : Code.wp P c Q a W := h2 W h1
theorem u32_add {a b : Nat} : IntKind.u32.wrap ((a : Int) + (b : Int)) = (add32 a b : Int) := by
  rw [IntKind.wrap_u32]
  unfold add32
  omega
theorem add32_int {a b : Nat} : ((a : Int) + (b : Int)) % 4294967296 = (add32 a b : Int) := by
  unfold add32
  omega
theorem xor_lt32 {a b : Nat} (ha : a < 4294967296) (hb : b < 4294967296) : a ^^^ b < 4294967296 := Nat.xor_lt_two_pow (n := 32) ha hb
theorem gr_trans {a b c : World} {r : Option Nat} (h : a.grownBy b r) (k : b.grownBy c r) : a.grownBy c r :=
  ⟨k.os.trans h.os, k.tape.trans h.tape, k.output.trans h.output, Nat.le_trans h.size k.size, fun i hi hr => (k.block i (Nat.lt_of_lt_of_le hi h.size) hr).trans (h.block i hi hr)⟩
theorem gr_ext {a b : World} (h : Ext a b) (r : Option Nat) : a.grownBy b r := ⟨h.os, h.tape, h.output, h.size, fun i hi _ => h.block i hi⟩
theorem gr_set {a b : World} {g : Nat} (h : a.grownBy b (some g)) (i : Nat) (u : Value) : a.grownBy (b.setCell ⟨g, i, none⟩ u) (some g) :=
  ⟨h.os, h.tape, h.output, by simpa [World.setCell] using h.size, fun j hj hne => (Below.heap_setCell b ⟨g, i, none⟩ u j (fun e => hne (by rw [e]))).trans (h.block j hj hne)⟩
def Fct (w : World) (g i x : Nat) : Prop := w.cell? ⟨g, i, none⟩ = some (.int .u32 (x : Int)) ∧ w.frozen? ⟨g, i, none⟩ = false ∧ x < 4294967296
theorem Arr.fct {w : World} {g i : Nat} {vs : List Nat} (h : Arr w g vs) (hi : i < vs.length) : Fct w g i (wd vs i) := h.2 i hi
theorem grown_set {w w' : World} {g k : Nat} {v : Value} (h : w.grownBy w' (some g)) : w.grownBy ((w'.setCell ⟨g, k, none⟩ v).drew) (some g) := gr_trans (gr_set h k v) (gr_ext (Ext.refl _).drew _)
def putRot (n : Nat) (vs : List Nat) (d a : Nat) : List Nat := vs.set d (rotr n (wd vs d ^^^ wd vs a))
def putSum (vs : List Nat) (c d : Nat) : List Nat := vs.set c (add32 (wd vs c) (wd vs d))
theorem putRot_len (n : Nat) (vs : List Nat) (a b : Nat) : (putRot n vs a b).length = vs.length := by simp [putRot]
theorem putSum_len (vs : List Nat) (a b : Nat) : (putSum vs a b).length = vs.length := by simp [putSum]
end Go.Proofs.Yteaoacinhdjkeaa
end

section
/-
  Whether two rows of bytes are the same: the reckoning alone. No conditions.
-/
namespace Go.Proofs.Yteaoacinhdjkeaa
open Go.ChangeShapes Go.WideShapes Go.ChangeAt Go.RowKit Go.Deep

/-- What the differences of the first k bytes come to. -/
def differ (xs ys : List UInt8) : Nat → Nat
  | 0 => 0
  | k + 1 => differ xs ys k ||| (bt xs k ^^^ bt ys k)

theorem differ_lt (xs ys : List UInt8) : ∀ k, differ xs ys k < 256
  | 0 => by simp [differ]
  | k + 1 => by
    have h := differ_lt xs ys k
    have h1 : bt xs k < 2 ^ 8 := bt_lt xs k
    have h2 : bt ys k < 2 ^ 8 := bt_lt ys k
    exact Nat.or_lt_two_pow (n := 8) h (Nat.xor_lt_two_pow h1 h2)

theorem xor_zero {a b : Nat} (h : a ^^^ b = 0) : a = b := by
  have : a ^^^ b ^^^ b = 0 ^^^ b := by rw [h]
  simpa [Nat.xor_assoc] using this

theorem differ_zero (xs ys : List UInt8) : ∀ k, (differ xs ys k = 0 ↔ ∀ j, j < k → xs.getD j 0 = ys.getD j 0)
  | 0 => by simp [differ]
  | k + 1 => by
    have ih := differ_zero xs ys k
    rw [differ, Nat.or_eq_zero_iff, ih]
    constructor
    · rintro ⟨h1, h2⟩ j hj
      rcases Nat.lt_or_ge j k with h | h
      · exact h1 j h
      · obtain rfl : j = k := by omega
        exact UInt8.toNat_inj.1 (xor_zero h2)
    · intro h
      exact ⟨fun j hj => h j (by omega), by unfold bt; rw [h k (by omega)]; simp⟩

theorem same_iff {xs ys : List UInt8} (h : xs.length = ys.length) : (xs = ys ↔ ∀ j, j < xs.length → xs.getD j 0 = ys.getD j 0) := by
  constructor
  · rintro rfl _ _; rfl
  · intro hh
    refine List.ext_getElem h fun j h1 h2 => ?_
    have := hh j h1
    simpa [List.getD, h1, h2] using this

theorem u8_differ (xs ys : List UInt8) (k : Nat) : bits .or .u8 (differ xs ys k : Int) (bits .xor .u8 (bt xs k : Int) (bt ys k : Int)) = (differ xs ys (k + 1) : Int) := by
  have h := differ_lt xs ys k
  have h1 : bt xs k < 2 ^ 8 := bt_lt xs k
  have h2 : bt ys k < 2 ^ 8 := bt_lt ys k
  rw [u8_xor_nat _ _ h1 h2, u8_or_nat _ _ h (Nat.xor_lt_two_pow (n := 8) h1 h2)]
  rfl
end Go.Proofs.Yteaoacinhdjkeaa
end

section
/-
  Bytes as cells of a block; bytes are copied into them. No conditions.
-/
namespace Go.Proofs.Yteaoacinhdjkeaa
open Go.ChangeShapes Go.WideShapes Go.ChangeAt Go.RowKit Go.Deep
set_option maxRecDepth 100000

/-- Bytes as cells. -/
def cellsOf (xs : List UInt8) : List Value := (List.range xs.length).map fun j => Value.int .u8 (bt xs j : Int)
theorem cellsOf_len (xs : List UInt8) : (cellsOf xs).length = xs.length := by simp [cellsOf]
theorem cellsOf_get {xs : List UInt8} {j : Nat} (h : j < xs.length) : (cellsOf xs)[j]? = some (.int .u8 (bt xs j : Int)) := by simp [cellsOf, h]

theorem cellsOf_one (xs : List UInt8) : (cellsOf xs).toArray.all (·.oneCell') = true := by
  rw [Array.all_eq_true_iff_forall_mem]
  intro v hv
  obtain ⟨j, _, rfl⟩ := List.mem_map.1 (List.mem_toArray.1 hv)
  rfl
/-- Bytes are copied into a row of cells that is all there. -/
theorem copy_bs {W : World} {g off dLen dCap : Nat} {cur : List Value} {t dT sT ty : TypeId} {A : Option Addr} {n c : Nat} {xs : List UInt8} (hu : Try.prog.underlying dT = some (.slice 5)) (hg : W.heap[g]? = some (.cells cur.toArray t (0, 0))) (h : Bs W A n c xs) (hd : n ≤ dLen) (hfit : off + n ≤ cur.length) :
    ∃ W', (Builtin.copy_ #[dT, sT] ty #[.slice (some ⟨g, off, none⟩) dLen dCap, .slice A n c]).run Try.prog W = .ok (goInt n) W' ∧ W'.heap[g]? = some (.cells (splice cur off (cellsOf xs)).toArray t (0, 0)) ∧ (∀ B, B ≤ g → Below B W W') := by
  have hl := h.len
  have hsz : (Try.prog.info? 5).map (·.size) = some 1 := rfl
  by_cases h0 : n = 0
  · subst h0
    obtain rfl : xs = [] := List.eq_nil_of_length_eq_zero hl
    refine ⟨W, ?_, by simpa [splice, cellsOf] using hg, fun B _ => Below.refl _ _⟩
    have := run_copy_none (P := Try.prog) W dT sT ty _ (some ⟨g, off, none⟩) A dLen dCap 0 c hu hsz (by simp)
    simpa using this
  · obtain ⟨b, o, rfl, hb, hc⟩ := h.pos (by omega)
    have hr := run_copy_row Try.prog W dT sT ty _ g off dLen dCap ⟨b, o, none⟩ n c cur.toArray t (cellsOf xs) hu hsz hg (by rw [cellsOf_len, hl]; exact (Nat.min_eq_left hd).symm) (fun j v hv => by
      have hj : j < xs.length := by
        rcases Nat.lt_or_ge j xs.length with q | q
        · exact q
        · rw [List.getElem?_eq_none (by rw [cellsOf_len]; exact q)] at hv; cases hv
      rw [cellsOf_get hj] at hv
      injection hv with hv
      subst hv
      have : (⟨b, o, none⟩ : Addr).add j = ⟨b, o + j, none⟩ := by unfold Addr.add; split <;> simp_all
      rw [this]
      exact hc j (by omega)) (by rw [cellsOf_len]; simp; omega) (fun v hv => by
      obtain ⟨j, _, rfl⟩ := List.mem_map.1 hv
      rfl)
    rw [cellsOf_len, hl] at hr
    refine ⟨_, hr, ?_, fun B hB => below_setRow (Below.refl _ _) hB _⟩
    have := setRow_heap W g _ ((cur.take off ++ cellsOf xs ++ cur.drop (off + n)).toArray) t _ hg
    simpa [splice, cellsOf_len, hl, List.append_assoc] using this

theorem upon_copy {o : Oper} {a : Act} {K : Act → World → Prop} {Q : Exit → Act → World → Prop} {W : World} {g off dLen dCap : Nat} {cur : List Value} {t dT sT ty : TypeId} {A : Option Addr} {n c : Nat} {xs : List UInt8} (hu : Try.prog.underlying dT = some (.slice 5)) (hg : W.heap[g]? = some (.cells cur.toArray t (0, 0))) (h : Bs W A n c xs) (hd : n ≤ dLen) (hfit : off + n ≤ cur.length)
    (H : ∀ W', Hid (W'.heap[g]? = some (.cells (splice cur off (cellsOf xs)).toArray t (0, 0))) → Hid (∀ B, B ≤ g → Below B W W') → Oper.upon Try.prog o a K Q (.ok (Next.value (goInt n)) W')) :
    Oper.upon Try.prog o a K Q (((Builtin.copy_ #[dT, sT] ty #[.slice (some ⟨g, off, none⟩) dLen dCap, .slice A n c]).run Try.prog W).andThen fun a w' => .ok (Next.value a) w') := by
  obtain ⟨W', h1, h2, h3⟩ := copy_bs (W := W) (dT := dT) (sT := sT) (ty := ty) (dCap := dCap) hu hg h hd hfit
  rw [h1]
  exact H W' h2 h3
theorem heap_alloc2 (w : World) (o1 o2 : Obj) : ((w.alloc o1).alloc o2).heap[w.heap.size + 1]? = some o2 := by
  simp only [World.alloc, Array.getElem?_push, Array.size_push, if_true]

theorem heap_alloc1 (w : World) (o1 o2 : Obj) : ((w.alloc o1).alloc o2).heap[w.heap.size]? = some o1 := by
  simp only [World.alloc, Array.getElem?_push, Array.size_push, if_true]
  rw [if_neg (by omega)]
end Go.Proofs.Yteaoacinhdjkeaa
end

section
/-
  Words as cells of a block. No conditions.
-/
namespace Go.Proofs.Yteaoacinhdjkeaa
open Go.ChangeShapes Go.WideShapes Go.ChangeAt Go.RowKit Go.Deep
set_option maxRecDepth 100000

theorem heap_lt {w : World} {g : Nat} {o : Obj} (h : w.heap[g]? = some o) : g < w.heap.size := by
  rcases Nat.lt_or_ge g w.heap.size with h1 | h1
  · exact h1
  · rw [Array.getElem?_eq_none h1] at h; cases h
/-- Words as cells. -/
def wcells (vs : List Nat) : List Value := vs.map fun x : Nat => Value.int .u32 (x : Int)

/-- Block g holds the words vs, and nothing else. -/
def Wr (w : World) (g : Nat) (t : TypeId) (vs : List Nat) : Prop := w.heap[g]? = some (.cells (wcells vs).toArray t (0, 0))
section
variable {w w' : World} {g : Nat} {t : TypeId} {vs : List Nat}
theorem Wr.lt (h : Wr w g t vs) : g < w.heap.size := by
  rcases Nat.lt_or_ge g w.heap.size with h1 | h1
  · exact h1
  · unfold Wr at h; rw [Array.getElem?_eq_none h1] at h; cases h
theorem Wr.cell (h : Wr w g t vs) {i : Nat} (hi : i < vs.length) : w.cell? ⟨g, i, none⟩ = some (.int .u32 (wd vs i : Int)) := by
  rw [cell_of_row w g i _ t (0, 0) h]
  simp [wcells, wd, List.getD, hi]
theorem Wr.frozen (h : Wr w g t vs) (i : Nat) : w.frozen? ⟨g, i, none⟩ = false := by
  unfold Wr at h
  simp [World.frozen?, h]
theorem Wr.set (h : Wr w g t vs) {k x : Nat} : Wr (w.setCell ⟨g, k, none⟩ (.int .u32 (x : Int))) g t (vs.set k x) := by
  have h1 := setCell_eq_setRow w g k _ t (0, 0) (.int .u32 (x : Int)) h
  unfold Wr
  rw [h1, setRow_heap w g _ _ t _ h]
  simp [wcells, List.map_set]
theorem Wr.arr (h : Wr w g t vs) (hb : ∀ i, i < vs.length → wd vs i < 4294967296) : Arr w g vs := ⟨h.lt, fun i hi => ⟨h.cell hi, h.frozen i, hb i hi⟩⟩
theorem Wr.kept {B : Nat} (h : Wr w g t vs) (he : Below B w w') (hB : g < B) : Wr w' g t vs := (he.block g hB).trans h
end

/-- The bytes of a block of bytes. -/
theorem Bs.part {w : World} {g : Nat} {t : TypeId} {fr : Nat × Nat} {xs : List UInt8} (h : w.heap[g]? = some (.cells (cellsOf xs).toArray t fr)) {o n c : Nat} (ho : o + n ≤ xs.length) (hn : n ≤ c) (hc : c ≤ 1000000) : Bs w (some ⟨g, o, none⟩) n c ((xs.drop o).take n) := by
  have hlt : g < w.heap.size := by
    rcases Nat.lt_or_ge g w.heap.size with h1 | h1
    · exact h1
    · rw [Array.getElem?_eq_none h1] at h; cases h
  refine ⟨by simp; omega, hn, Nat.le_trans hc (by decide), fun _ => ⟨g, o, rfl, hlt, fun j hj => ?_⟩⟩
  rw [cell_of_row w g (o + j) _ t fr h]
  have hb : bt ((xs.drop o).take n) j = bt xs (o + j) := by
    unfold bt
    simp [List.getD, List.getElem?_take, hj]
  rw [hb]
  have := cellsOf_get (xs := xs) (j := o + j) (by omega)
  simpa using this

theorem size_alloc (w : World) (o : Obj) : (w.alloc o).heap.size = w.heap.size + 1 := by
  simp only [World.alloc, Array.size_push]
theorem heap_alloc30 (w : World) (o1 o2 o3 : Obj) : (((w.alloc o1).alloc o2).alloc o3).heap[w.heap.size]? = some o1 := by
  rw [Below.heap_alloc _ _ _ (by rw [size_alloc, size_alloc]; omega)]
  exact heap_alloc1 w o1 o2
theorem heap_alloc31 (w : World) (o1 o2 o3 : Obj) : (((w.alloc o1).alloc o2).alloc o3).heap[w.heap.size + 1]? = some o2 := by
  rw [Below.heap_alloc _ _ _ (by rw [size_alloc, size_alloc]; omega)]
  exact heap_alloc2 w o1 o2
theorem heap_alloc32 (w : World) (o1 o2 o3 : Obj) : (((w.alloc o1).alloc o2).alloc o3).heap[w.heap.size + 1 + 1]? = some o3 := by
  have := heap_alloc2 (w.alloc o1) o2 o3
  rwa [size_alloc] at this
theorem wc8' {vs : List Nat} {n : Nat} (h : vs.length = n) : (wcells vs).length = n := by simp [wcells, h]
theorem wcells_size {vs : List Nat} {n : Nat} (h : vs.length = n) : (wcells vs).toArray.size = n := by simp [wcells, h]
theorem wcells_one (vs : List Nat) : (wcells vs).toArray.all (·.oneCell') = true := by
  rw [Array.all_eq_true_iff_forall_mem]
  intro v hv
  obtain ⟨j, _, rfl⟩ := List.mem_map.1 (List.mem_toArray.1 hv)
  rfl
theorem cellsOf_map (xs : List UInt8) : cellsOf xs = xs.map fun x => Value.int .u8 (x.toNat : Int) := by
  apply List.ext_getElem?
  intro j
  by_cases q : j < xs.length
  · rw [cellsOf_get q]
    simp [bt, List.getD, q]
  · rw [List.getElem?_eq_none (by rw [cellsOf_len]; omega), List.getElem?_eq_none (by simp; omega)]
theorem cellsOf_splice (xs ys : List UInt8) (o : Nat) : splice (cellsOf xs) o (cellsOf ys) = cellsOf (splice xs o ys) := by
  simp [cellsOf_map, splice]
theorem splice_len {xs ys : List UInt8} {o : Nat} (h : o + ys.length ≤ xs.length) : (splice xs o ys).length = xs.length := by
  simp [splice]; omega
theorem bt_splice {xs ys : List UInt8} {o j : Nat} (h : o + ys.length ≤ xs.length) (hj : j < o + ys.length) : bt (splice xs o ys) j = if j < o then bt xs j else bt ys (j - o) := by
  unfold bt splice
  simp only [List.getD, List.getElem?_append, List.length_take]
  by_cases q : j < o
  · rw [if_pos q, if_pos (by omega)]
    simp [List.getElem?_take, q]
  · rw [if_neg q, if_neg (by omega), if_pos (by omega), Nat.min_eq_left (by omega)]
theorem list_bt {xs ys : List UInt8} (h : xs.length = ys.length) (hb : ∀ j, j < xs.length → bt xs j = bt ys j) : xs = ys := (same_iff h).2 fun j hj => UInt8.toNat_inj.1 (hb j hj)
theorem index_word {vs : List Nat} {w : World} {k n : Nat} {t : TypeId} (ht : Try.prog.underlying t = some (.array n 147)) (hl : vs.length = n) (hk : k < n) :
    (Instr.index t (.agg (wcells vs).toArray) (.int .i64 (k : Int))).run Try.prog w = .ok (.int .u32 (wd vs k : Int)) w := by
  have h1 : (0 : Int) ≤ (k : Int) ∧ (k : Int) < (n : Int) := by omega
  have hs : (sizeOf 147).run Try.prog w = .ok 1 w := rfl
  have hg : (wcells vs).toArray[k]? = some (.int .u32 (wd vs k : Int)) := by
    simp [wcells, wd, List.getD, show k < vs.length by omega]
  unfold Instr.index
  simp only [Sem.run_bind, asIntOf, Sem.run_pure, Result.andThen_ok, run_underlying ht]
  rw [if_pos h1]
  simp only [Sem.run_bind, hs, Result.andThen_ok]
  have ha : (isAgg 147).run Try.prog w = .ok false w := rfl
  unfold part
  simp only [Sem.run_bind, ha, Result.andThen_ok, Int.toNat_natCast, Nat.mul_one, Bool.false_eq_true, if_false, hg, Sem.run_pure]
/-- A key's own bytes. -/
theorem Bs.key {w : World} {g : Nat} {t : TypeId} {xs : List UInt8} (h : w.heap[g]? = some (.cells (cellsOf xs).toArray t (0, 0))) (hl : xs.length = 32) : Bs w (some ⟨g, 0, none⟩) 32 32 xs := by
  have := Bs.part h (o := 0) (n := 32) (c := 32) (by omega) (by omega) (by omega)
  rw [List.drop_zero, List.take_of_length_le (by omega)] at this
  exact this
/-- The bytes of words. -/
def bytesL (vs : List Nat) : List UInt8 := (List.range (4 * vs.length)).map fun i => UInt8.ofNat (wd vs (i / 4) / 256 ^ (i % 4))

theorem bytesL_len (vs : List Nat) : (bytesL vs).length = 4 * vs.length := by simp [bytesL]
theorem bt_bytesL {vs : List Nat} {j : Nat} (hj : j < 4 * vs.length) : bt (bytesL vs) j = wd vs (j / 4) / 256 ^ (j % 4) % 256 := by
  unfold bt bytesL
  simp [List.getD, hj]
/-- xs[4*k:] of an array. -/
theorem sliceFrom4 {w : World} {g k n : Nat} {t : TypeId} (ht : Try.prog.underlying t = some (.array (Try.prog.arrayLen t) (Try.prog.elem t))) (hs : ∀ w, (sizeOf (Try.prog.elem t)).run Try.prog w = .ok 1 w) (hn : Try.prog.arrayLen t = n) (hk : 4 * k < n) :
    (Instr.sliceAt t (.pointer (some ⟨g, 0, none⟩)) (some (.int .i64 (4 * (k : Int)))) none none).run Try.prog w = .ok (.slice (some ⟨g, 4 * k, none⟩) (n - 4 * k) (n - 4 * k)) w := by
  rw [run_sliceAt_array_l w t _ ht .i64 _ (by omega) (by rw [hn]; omega)]
  rw [hs]
  have h1 : (4 * (k : Int)).toNat = 4 * k := by omega
  have h3 : (⟨g, 0, none⟩ : Addr).add (4 * k * 1) = ⟨g, 4 * k, none⟩ := by unfold Addr.add; split <;> simp_all
  show Result.ok (slicedAt _ _ _ _ _) w = _
  rw [hn, h1]
  unfold slicedAt
  rw [if_neg (by omega), h3]
end Go.Proofs.Yteaoacinhdjkeaa
end

section
/-
  Whole arrays, read or written within a region; results that are an array and a number; composites. No conditions.
-/
namespace Go.Proofs.Yteaoacinhdjkeaa
open Go.ChangeShapes Go.WideShapes Go.ChangeAt Go.RowKit Go.Deep

theorem exec_load_row {P : Program} {o : Oper} {a : Act} {w : World} {ty : TypeId} {x : Operand} {g : Nat} {t : TypeId} {cs : Array Value} {fr : Nat × Nat} {d : TypeDesc} (ho : o.op = .load ty x) (hx : a.eval x = .pointer (some ⟨g, 0, none⟩)) (hg : w.heap[g]? = some (.cells cs t fr))
    (hu : P.underlying ty = some d) (hd : (match d with | .struct _ | .array _ _ => true | _ => false) = true) (hi : (P.info? ty).map (·.size) = some cs.size) : (execOp a.eval o).run P w = .ok (.value (.agg cs)) w := by
  unfold execOp
  simp only [ho, hx, Instr.loadAt, Instr.sureAddr, Sem.run_bind, Sem.run_pure, Result.andThen_ok, run_loadVar_row w g t ty cs fr d hg hu hd hi]

theorem results_row_tmp {P : Program} {fn : Func} {p u : Tmp} {ty : TypeId} (h : fn.results = #[.cell p ty, .tmp u]) (tmps : Array Value) (w : World) (g : Nat) (t : TypeId) (cs : Array Value) (fr : Nat × Nat) (d : TypeDesc) (v : Value)
    (hp : tmps.getD p undef = .pointer (some ⟨g, 0, none⟩)) (hv : tmps.getD u undef = v) (hg : w.heap[g]? = some (.cells cs t fr))
    (hu : P.underlying ty = some d) (hd : (match d with | .struct _ | .array _ _ => true | _ => false) = true) (hi : (P.info? ty).map (·.size) = some cs.size) :
    (results fn tmps).run P w = .ok (.tuple #[.agg cs, v]) w := by
  rw [results_cell_tmp h, hp, hv]
  simp only [asAddr, Sem.run_pure, Result.andThen_ok, run_loadVar_row w g t ty cs fr d hg hu hd hi]

theorem gen_q {F : Exit → Act → World → Prop} {x : Exit} {a : Act} {W : World} (ψ : World → Prop) (h1 : ψ W) (h2 : ∀ w1, ψ w1 → F x a w1) : F x a W := h2 W h1
/-- A composite whose cells are known under a name. -/
theorem wpList_build_as {P : Program} {ops : Array Oper} {rest : List Oper} {o : Oper} {a : Act} {w : World} {Q : Exit → Act → World → Prop} (hg : o.guard = none) (t : TypeId) (parts : Array (Nat × Operand)) (ho : o.op = .build t parts) (cells : Array Value)
    (hf : P.built t (parts.map fun (i, x) => (i, a.eval x)).toList = some cells) (h : wpList P ops Q rest (a.put o.dst (.agg cells)) w) : wpList P ops Q (o :: rest) a w :=
  wpList_build hg t parts ho (by rw [hf]; rfl) (by rw [hf]; exact h)
def zeros32 : Array Value := (List.replicate 32 (Value.int .u8 0)).toArray
theorem zeros32_size : zeros32.size = 32 := by simp [zeros32]
theorem zeros32_one : zeros32.all (·.oneCell') = true := by kernel_rfl
theorem zeros32_cells : (cellsOf (List.replicate 32 0)).toArray = zeros32 := by kernel_rfl
end Go.Proofs.Yteaoacinhdjkeaa
end
