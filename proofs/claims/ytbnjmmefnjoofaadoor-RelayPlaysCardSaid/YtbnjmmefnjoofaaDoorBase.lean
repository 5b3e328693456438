/-
  Words on memory that all proofs of this seat share: a slice that reads as a list of bytes ('Bs'), worlds that only grow ('Ext'). No conditions.
-/
import Derived.Test.YtbnjmmefnjoofaaDoorRows
import Derived.WalkKit
import Derived.ProofKit
import Derived.OpenShut
import Derived.ShutString
import Derived.ChangeOld
import Derived.Below
import Derived.Lib.Hide
import Derived.Deep.OwnRows
import Derived.Deep.Draws
import Derived.Deep.QuietTactic
import Derived.BigQuiet
import Derived.IntWalk
import Derived.Laws.BytesArg
import Derived.Deep.Light
import Derived.Laws.BitsAllLaws
import Derived.Laws.BitsLemmas
import Derived.Maps.RangeWalk
namespace Go.Proofs.YtbnjmmefnjoofaaDoor
open Go.ChangeShapes Go.WideShapes Go.ChangeAt Go.RowKit Go.Deep

/-- The world has only grown: nothing that was there has turned. -/
def Ext (w w' : World) : Prop := Below w.heap.size w w'
theorem Ext.refl (w : World) : Ext w w := Below.refl _ _
theorem Ext.size {w w' : World} (h : Ext w w') : w.heap.size ≤ w'.heap.size := Below.size h
theorem Ext.trans {a b c : World} (h : Ext a b) (k : Ext b c) : Ext a c := Below.trans h (Below.mono k h.size)
theorem Ext.trans' {a b c : World} (h : Ext a b) (k : Below a.heap.size b c) : Ext a c := Below.trans h k
theorem Ext.drew {a w : World} (h : Ext a w) : Ext a w.drew := Below.drew h
theorem Ext.drewN {a w : World} (h : Ext a w) (n : Nat) : Ext a (w.drewN n) := ⟨h.os, h.tape, h.output, h.size, h.block⟩
theorem Ext.alloc {a w : World} (h : Ext a w) (o : Obj) : Ext a (w.alloc o) := Below.alloc h h.size o
theorem Ext.setCell {a w : World} (h : Ext a w) {p : Addr} (hp : a.heap.size ≤ p.block) (u : Value) : Ext a (w.setCell p u) := Below.setCell h hp u
theorem Ext.cell {w w' : World} (h : Ext w w') {p : Addr} (hp : p.block < w.heap.size) : w'.cell? p = w.cell? p := Below.cell h hp

theorem ret_bool {a b : Bool} (h : a = b) : Ending.returned (.bool a) = .returned (.bool b) := by rw [h]
theorem ret_int {k : IntKind} {a b : Int} (h : a = b) : Ending.returned (.int k a) = .returned (.int k b) := by rw [h]

theorem nat_u64 {a : Int} (h : (Lit.int .u64 a).wf = true) : ∃ z : Nat, a = (z : Int) ∧ z < 18446744073709551616 := by
  have hb : 0 ≤ a ∧ a ≤ 18446744073709551615 := by simpa [Lit.wf, IntKind.min, IntKind.max, IntKind.signed, IntKind.bits] using h
  exact ⟨a.toNat, by omega, by omega⟩

/-- The byte at place k, as a number. -/
def bt (xs : List UInt8) (k : Nat) : Nat := (xs.getD k 0).toNat
theorem bt_lt (xs : List UInt8) (k : Nat) : bt xs k < 256 := (xs.getD k 0).toNat_lt

/-- The slice '.slice A n c' reads as the bytes xs. -/
def Bs (w : World) (A : Option Addr) (n c : Nat) (xs : List UInt8) : Prop :=
  xs.length = n ∧ n ≤ c ∧ c ≤ maxLen ∧ (0 < n → ∃ b off, A = some ⟨b, off, none⟩ ∧ b < w.heap.size ∧ ∀ j, j < n → w.cell? ⟨b, off + j, none⟩ = some (.int .u8 (bt xs j : Int)))

section
variable {w w' : World} {A : Option Addr} {n c : Nat} {xs : List UInt8}
theorem Bs.len (h : Bs w A n c xs) : xs.length = n := h.1
theorem Bs.le (h : Bs w A n c xs) : n ≤ c := h.2.1
theorem Bs.cap (h : Bs w A n c xs) : c ≤ 9223372036854775807 := h.2.2.1
theorem Bs.nil (w : World) : Bs w none 0 0 [] := ⟨rfl, Nat.le_refl _, Nat.zero_le _, fun h => absurd h (by omega)⟩
theorem Bs.pos (h : Bs w A n c xs) (hn : 0 < n) : ∃ b off, A = some ⟨b, off, none⟩ ∧ b < w.heap.size ∧ ∀ j, j < n → w.cell? ⟨b, off + j, none⟩ = some (.int .u8 (bt xs j : Int)) := h.2.2.2 hn
theorem Bs.ext (h : Bs w A n c xs) (he : Ext w w') : Bs w' A n c xs :=
  ⟨h.1, h.2.1, h.2.2.1, fun hn => by
    obtain ⟨b, off, e, hb, hc⟩ := h.2.2.2 hn
    exact ⟨b, off, e, Nat.lt_of_lt_of_le hb he.size, fun j hj => (he.cell hb).trans (hc j hj)⟩⟩
theorem bt_take {xs : List UInt8} {k j : Nat} (h : j < k) : bt (xs.take k) j = bt xs j := by unfold bt; simp [List.getD, h]
theorem bt_drop {xs : List UInt8} {k j : Nat} : bt (xs.drop k) j = bt xs (k + j) := by unfold bt; simp [List.getD]
theorem Bs.take (h : Bs w A n c xs) {k : Nat} (hk : k ≤ n) : Bs w A k c (xs.take k) :=
  ⟨by rw [List.length_take, h.1]; omega, by have := h.2.1; omega, h.2.2.1, fun h0 => by
    obtain ⟨b, off, e, hb, hc⟩ := h.2.2.2 (by omega)
    exact ⟨b, off, e, hb, fun j hj => by rw [hc j (by omega), bt_take hj]⟩⟩
/-- What the frame of a law says of a slice of bytes that came in. -/
theorem bs_of_row {a : Option Addr} {len cap : Nat} {zs : List Int} (h : (a = none ∧ len = 0 ∧ cap = 0 ∧ zs = []) ∨
    ∃ x, a = some x ∧ len ≤ cap ∧ cap ≤ maxLen ∧ zs.length = cap ∧ (∀ i, i < zs.length → w.cell? (x.add i) = some (.int .u8 (zs.getD i 0))) ∧ ∀ n ∈ zs, (Lit.int .u8 n).wf = true) : ∃ xs, Bs w a len cap xs := by
  rcases h with ⟨rfl, rfl, rfl, rfl⟩ | ⟨x, rfl, hl, hc, hz, hcell, hwf⟩
  · exact ⟨[], Bs.nil w⟩
  · refine ⟨(zs.take len).map fun z => UInt8.ofNat z.toNat, by simp; omega, hl, hc, fun h0 => ?_⟩
    obtain ⟨b, off, rfl, hcl⟩ := ints_at hcell (by omega)
    refine ⟨b, off, rfl, ?_, fun j hj => ?_⟩
    · have := hcl 0 (by omega)
      rcases Nat.lt_or_ge b w.heap.size with h | h
      · exact h
      · simp [World.cell?, Array.getElem?_eq_none h] at this
    · have hj' : j < zs.length := by omega
      rw [hcl j hj']
      have hb : 0 ≤ zs[j] ∧ zs[j] ≤ 255 := by simpa [Lit.wf, IntKind.min, IntKind.max, IntKind.signed, IntKind.bits] using hwf _ (List.getElem_mem hj')
      simp [bt, List.getD, hj', hj]
      omega
theorem Bs.zero (h : Bs w A 0 c xs) : xs = [] := List.eq_nil_of_length_eq_zero h.1
end

theorem info8 : (Tryd.prog.info? 5).map (fun i => (i.zero, i.size, i.bytes)) = some (some (.int .u8 0), 1, 1) := by kernel_rfl

/-- make([]byte, n). -/
theorem make8 (n : Nat) (hn : n ≤ 281474976710656) (w : World) :
    (Instr.makeSlice 35 (.int .i64 (n : Int)) (.int .i64 (n : Int))).run Tryd.prog w = .ok (.slice (some ⟨w.heap.size, 0, none⟩) n n) (w.alloc (.cells (madeCells #[.int .u8 0] n) 5)) :=
  run_make_row' _ _ _ 1 Tryd.underlying35 info8 rfl .i64 .i64 n (by omega) (by omega) w

/-- A row of n bytes of the call's own, of which the first k are filled. -/
def Fill (w wr : World) (n k : Nat) (f : Nat → Nat) : Prop := Ext w wr ∧ wr.rowIs w.heap.size 5 n (fun i => if i < k then .int .u8 (f i : Int) else .int .u8 0)

section
variable {w wr : World} {n k : Nat} {f : Nat → Nat}
theorem Fill.start (w : World) (n : Nat) (f : Nat → Nat) : Fill w (w.alloc (.cells (madeCells #[.int .u8 0] n) 5)) n 0 f :=
  ⟨(Ext.refl w).alloc _, (World.rowIs_made w _ n _).congr fun i _ => by simp⟩
theorem Fill.cell (h : Fill w wr n k f) (hk : k < n) : wr.cell? ⟨w.heap.size, k, none⟩ = some (.int .u8 0) := by
  rw [h.2.cell hk]; simp
theorem Fill.frozen (h : Fill w wr n k f) (j : Nat) : wr.frozen? ⟨w.heap.size, j, none⟩ = false := h.2.frozen j
theorem Fill.step (h : Fill w wr n k f) {u : Int} (hu : u = (f k : Int)) : Fill w (wr.setCell ⟨w.heap.size, k, none⟩ (.int .u8 u)) n (k + 1) f := by
  subst hu
  refine ⟨h.1.setCell (Nat.le_refl _) _, (h.2.set k _).congr fun i _ => ?_⟩
  by_cases e : i = k
  · subst e; simp
  · simp only [if_neg e]
    by_cases hi : i < k
    · rw [if_pos hi, if_pos (by omega)]
    · rw [if_neg hi, if_neg (by omega)]
theorem Fill.drew (h : Fill w wr n k f) : Fill w wr.drew n k f := ⟨h.1.drew, h.2.drew⟩
theorem Fill.done (h : Fill w wr n n f) {xs : List UInt8} (hl : xs.length = n) (hn : n ≤ 281474976710656) (hf : ∀ j, j < n → f j = bt xs j) : Bs wr (some ⟨w.heap.size, 0, none⟩) n n xs :=
  ⟨hl, Nat.le_refl _, by unfold maxLen; omega, fun _ => ⟨w.heap.size, 0, rfl, h.2.lt, fun j hj => by
    rw [Nat.zero_add, h.2.cell hj, if_pos hj, hf j hj]⟩⟩
end

/-- The string of these bytes. -/
def strL (xs : List UInt8) : ByteArray := ⟨xs.toArray⟩
theorem strL_size (xs : List UInt8) : (strL xs).size = xs.length := by simp [strL, ByteArray.size]
theorem strL_inj {xs ys : List UInt8} : strL xs = strL ys ↔ xs = ys := by
  constructor
  · intro h
    have : (strL xs).data.toList = (strL ys).data.toList := by rw [h]
    simpa [strL] using this
  · rintro rfl; rfl

/-- string(b). -/
theorem conv_bs {w : World} {A : Option Addr} {n c : Nat} {xs : List UInt8} (h : Bs w A n c xs) :
    (convert 35 9 (.slice A n c)).run Tryd.prog w = .ok (.string (strL xs)) w := by
  rw [run_convert_bytes_string w _ _ 5 _ _ _ Tryd.underlying35 Tryd.underlying5 Tryd.underlying9]
  rcases A with _ | a
  · have hn : n = 0 := by
      rcases Nat.eq_zero_or_pos n with h0 | h0
      · exact h0
      · obtain ⟨b, off, e, _⟩ := h.pos h0
        cases e
    subst hn
    rw [h.zero]
    rfl
  · have hl : (loadCells a n).run Tryd.prog w = .ok ((xs.map fun x => (x.toNat : Int)).map (Value.int .u8)).toArray w := by
      have hr := run_loadCells_list (P := Tryd.prog) w a ((xs.map fun x => (x.toNat : Int)).map (Value.int .u8)) (fun j v hj => by
        have hjl : j < xs.length := by
          rcases Nat.lt_or_ge j xs.length with h | h
          · exact h
          · simp [h] at hj
        obtain ⟨b, off, e, hb, hc⟩ := h.pos (by have := h.len; omega)
        injection e with e
        subst e
        have hplain : (⟨b, off, none⟩ : Addr).add j = ⟨b, off + j, none⟩ := by unfold Addr.add; split <;> simp_all
        rw [hplain, hc j (by rw [← h.len]; exact hjl)]
        simp [hjl] at hj
        subst hj
        simp [bt, List.getD, hjl])
      simpa [h.len] using hr
    rw [run_bytesToString w _ _ _ _ hl, foldl_push_bytes]
    simp [strL, ByteArray.empty, ByteArray.emptyWithCapacity]
    have e : ((fun n : Int => UInt8.ofNat n.toNat) ∘ fun x : UInt8 => (x.toNat : Int)) = id := by funext x; simp
    rw [e]
    simp
    rfl

/-- The call hands back a slice of these bytes; nothing that was there has turned. -/
def RetBs (xs : List UInt8) (w : World) (e : Ending) (w' : World) : Prop := ∃ A n c, e = .returned (.slice A n c) ∧ Bs w' A n c xs ∧ Ext w w'
/-- The same with an error's number beside it. -/
def RetBsE (xs : List UInt8) (er : Int) (w : World) (e : Ending) (w' : World) : Prop := ∃ A n c, e = .returned (.tuple #[.slice A n c, .int .i64 er]) ∧ Bs w' A n c xs ∧ Ext w w'
end Go.Proofs.YtbnjmmefnjoofaaDoor
