import Derived.Test.YtadnmiedmcckkaaDoorPkN
import Derived.Test.YtadnmiedmcckkaaDoorPkO
import Derived.Test.YtadnmiedmcckkaaDoorBase
import Derived.Defers
import Derived.Laws.Pointers
import Derived.Laws.LoneSync
import Derived.RegionTactic
import Derived.RegionCalls
import Derived.Test.YtadnmiedmcckkaaDoorWords
import Derived.Test.YtadnmiedmcckkaaDoorSameL
import Derived.Test.YtadnmiedmcckkaaDoorMix
section
/-
  A source of keys in memory: a block of 37 cells.
-/
namespace Go.Proofs.YtadnmiedmcckkaaDoor
open Go.ChangeShapes Go.WideShapes Go.ChangeAt Go.RowKit Go.Deep
set_option maxRecDepth 100000

theorem grown_of_ext {w w' : World} {r : Option Nat} (h : Ext w w') : w.grownBy w' r := ⟨h.os, h.tape, h.output, h.size, fun i hi _ => h.block i hi⟩
theorem grown_drew {a w : World} {r : Option Nat} (h : a.grownBy w r) : a.grownBy w.drew r := ⟨h.os, h.tape, h.output, h.size, h.block⟩
theorem grown_setCell {w : World} {g o : Nat} {v : Value} : w.grownBy (w.setCell ⟨g, o, none⟩ v) (some g) := grown_setCells (w := w) (g := g) (o := o) (vs := [v])
theorem grown_keep {w w' : World} {g i : Nat} {o : Obj} (h : w.grownBy w' (some g)) (hi : i ≠ g) (k : w.heap[i]? = some o) : w'.heap[i]? = some o := (h.block i (heap_lt k) (fun e => hi (Option.some.inj e))).trans k
theorem ext_grown {w0 a b : World} {g : Nat} (h : Ext w0 a) (k : a.grownBy b (some g)) (hg : w0.heap.size ≤ g) : Ext w0 b :=
  Below.trans h ⟨k.os, k.tape, k.output, k.size, fun i hi => k.block i (Nat.lt_of_lt_of_le hi h.size) (fun e => by have := Option.some.inj e; omega)⟩

/-- The cells of a source: the seed, the Once (done, the lock's state, its sema), the root, how many were told. -/
def srcC (A : Option Addr) (n c : Nat) (d s : Int) (rt : List UInt8) (m : Nat) : List Value := [.slice A n c, .int .u32 d, .int .i32 s, .int .u32 0] ++ (cellsOf rt ++ [.int .i64 (m : Int)])
theorem srcC_len {A : Option Addr} {n c m : Nat} {d s : Int} {rt : List UInt8} (h : rt.length = 32) : (srcC A n c d s rt m).length = 37 := by simp [srcC, cellsOf_len, h]
def Sb (w : World) (g : Nat) (A : Option Addr) (n c : Nat) (d s : Int) (rt : List UInt8) (m : Nat) : Prop :=
  w.heap[g]? = some (.cells (srcC A n c d s rt m).toArray 84 (0, 0)) ∧ rt.length = 32
section
variable {w w' : World} {g n c m : Nat} {A : Option Addr} {d s : Int} {rt : List UInt8}
theorem Sb.lt (h : Sb w g A n c d s rt m) : g < w.heap.size := heap_lt h.1
theorem Sb.ext (h : Sb w g A n c d s rt m) (e : Ext w w') : Sb w' g A n c d s rt m := ⟨(e.block g h.lt).trans h.1, h.2⟩
theorem Sb.kept {B : Nat} (h : Sb w g A n c d s rt m) (e : Below B w w') (hB : g < B) : Sb w' g A n c d s rt m := ⟨(e.block g hB).trans h.1, h.2⟩
theorem Sb.frozen (h : Sb w g A n c d s rt m) (j : Nat) : w.frozen? ⟨g, j, none⟩ = false := frozen_of_row w g j _ _ h.1
theorem Sb.cell0 (h : Sb w g A n c d s rt m) : w.cell? ⟨g, 0, none⟩ = some (.slice A n c) := by rw [cell_of_row w g _ _ _ _ h.1]; rfl
theorem Sb.cell1 (h : Sb w g A n c d s rt m) : w.cell? ⟨g, 1, none⟩ = some (.int .u32 d) := by rw [cell_of_row w g _ _ _ _ h.1]; rfl
theorem Sb.cell2 (h : Sb w g A n c d s rt m) : w.cell? ⟨g, 2, none⟩ = some (.int .i32 s) := by rw [cell_of_row w g _ _ _ _ h.1]; rfl
theorem Sb.cell36 (h : Sb w g A n c d s rt m) : w.cell? ⟨g, 36, none⟩ = some (.int .i64 (m : Int)) := by
  rw [cell_of_row w g _ _ _ _ h.1, List.getElem?_toArray, srcC, List.getElem?_append_right (by simp), List.getElem?_append_right (by simp [cellsOf_len, h.2])]
  simp [cellsOf_len, h.2]
theorem Sb.at4 (h : Sb w g A n c d s rt m) : ∀ j v, (cellsOf rt)[j]? = some v → w.cell? ⟨g, 4 + j, none⟩ = some v := fun j v hv => by
  rw [cell_of_row w g _ _ _ _ h.1, List.getElem?_toArray, srcC, List.getElem?_append_right (by simp), show 4 + j - [Value.slice A n c, .int .u32 d, .int .i32 s, .int .u32 0].length = j by simp, List.getElem?_append_left (List.getElem?_eq_some_iff.1 hv).1, hv]
theorem heap_setCell1 {w : World} {g o : Nat} {v : Value} {t : TypeId} {fr : Nat × Nat} {L : List Value} (h : w.heap[g]? = some (.cells L.toArray t fr)) : (w.setCell ⟨g, o, none⟩ v).heap[g]? = some (.cells (L.set o v).toArray t fr) := by
  simp [World.setCell, Array.getElem?_modify, h]
theorem Sb.set0 (h : Sb w g A n c d s rt m) (A' : Option Addr) (n' c' : Nat) : Sb (w.setCell ⟨g, 0, none⟩ (.slice A' n' c')) g A' n' c' d s rt m := ⟨heap_setCell1 h.1, h.2⟩
theorem Sb.set1 (h : Sb w g A n c d s rt m) (d' : Int) : Sb (w.setCell ⟨g, 1, none⟩ (.int .u32 d')) g A n c d' s rt m := ⟨heap_setCell1 h.1, h.2⟩
theorem Sb.set2 (h : Sb w g A n c d s rt m) (s' : Int) : Sb (w.setCell ⟨g, 2, none⟩ (.int .i32 s')) g A n c d s' rt m := ⟨heap_setCell1 h.1, h.2⟩
theorem Sb.set36 (h : Sb w g A n c d s rt m) (m' : Nat) : Sb (w.setCell ⟨g, 36, none⟩ (.int .i64 (m' : Int))) g A n c d s rt m' := ⟨by
  have := heap_setCell1 (o := 36) (v := .int .i64 (m' : Int)) h.1
  rw [this, srcC, srcC, List.set_append, if_neg (by simp), List.set_append, if_neg (by simp [cellsOf_len, h.2])]
  simp [cellsOf_len, h.2], h.2⟩
theorem Sb.setRoot (h : Sb w g A n c d s rt m) {rt' : List UInt8} (hr : rt'.length = 32) : Sb (w.setCells g 4 (cellsOf rt')) g A n c d s rt' m := ⟨by
  have := heap_setCells_row (cellsOf rt') 4 w _ h.1 (by rw [srcC_len h.2, cellsOf_len, hr]; omega)
  rw [this]
  have dd : List.drop (4 + 32) (srcC A n c d s rt m) = [.int .i64 (m : Int)] := by
    rw [srcC, ← List.append_assoc, List.drop_left' (by simp [cellsOf_len, h.2])]
  have tt : List.take 4 (srcC A n c d s rt m) = [.slice A n c, .int .u32 d, .int .i32 s, .int .u32 0] := by
    rw [srcC, List.take_left' (by simp)]
  unfold splice
  rw [cellsOf_len, hr, dd, tt]
  rfl, hr⟩
theorem Sb.there (h : Sb w g A n c d s rt m) : w.there g 4 32 := there_of_row h.1 (by rw [srcC_len h.2]; omega)
end
theorem srcInfo : (Tryd.prog.info? 84).map (·.size) = some 37 := by kernel_rfl
end Go.Proofs.YtadnmiedmcckkaaDoor
end

section
/-
  sync.Once's parts, one goroutine: the lock, what is stored, each as a contract on one cell.
-/
namespace Go.Proofs.YtadnmiedmcckkaaDoor
open Go.ChangeShapes Go.WideShapes Go.ChangeAt Go.RowKit Go.Deep
set_option maxRecDepth 100000

theorem oDisable (w : World) : (callFunc 95 #[]).run Tryd.prog w = .ok (.value (.tuple #[])) w := run_call_mark0 Tryd.func95 (by kernel_rfl) (by kernel_rfl) (by kernel_rfl) .disable (by kernel_rfl) w
theorem oEnable (w : World) : (callFunc 97 #[]).run Tryd.prog w = .ok (.value (.tuple #[])) w := run_call_mark0 Tryd.func97 (by kernel_rfl) (by kernel_rfl) (by kernel_rfl) .enable (by kernel_rfl) w
theorem oAcquire (a : Addr) (w : World) : (callFunc 98 #[.pointer (some a)]).run Tryd.prog w = .ok (.value (.tuple #[])) w := run_call_marked Tryd.func98 (by kernel_rfl) (by kernel_rfl) (by kernel_rfl) .acquire (by kernel_rfl) a w
theorem oReleaseMerge (a : Addr) (w : World) : (callFunc 100 #[.pointer (some a)]).run Tryd.prog w = .ok (.value (.tuple #[])) w := run_call_marked Tryd.func100 (by kernel_rfl) (by kernel_rfl) (by kernel_rfl) .releaseMerge (by kernel_rfl) a w

/-- '(*sync/atomic.Bool).Store(true)', deferred: the cell holds 1. -/
theorem oStore_deferred (a : Addr) (x : Value) (u : FrameMode) (w : World) (hc : w.cell? a = some x) (hz : w.frozen? a = false) :
    CallsD Tryd.prog 81 #[.pointer (some a), .bool true] u w fun e u' w' => u' = u ∧ (e = .returned (.tuple #[]) ∧ w' = w.drew.setCell a (.int .u32 1)) := by
  have hc' : w.drew.cell? a = some x := by go_simp
  have hz' : w.drew.frozen? a = false := by go_simp
  have hst := run_call_store (P := Tryd.prog) Tryd.func90 (by kernel_rfl) (by kernel_rfl) (by kernel_rfl) (by kernel_rfl) (k := .u32) (y := 1) hc' hz'
  go_enter_d Tryd.func81, Tryd.ntmps81
  go_wp2
  go_region_calls
  all_goals (go_end0; exact ⟨rfl, rfl⟩)

/-- '(*sync.Mutex).Unlock', deferred, the lock held and nobody waiting: state 0. -/
theorem oUnlock_deferred (a : Addr) (u : FrameMode) (w : World) (hc : w.cell? a = some (.int .i32 1)) (hz : w.frozen? a = false) :
    CallsD Tryd.prog 80 #[.pointer (some a)] u w fun e u' w' => u' = u ∧ (e = .returned (.tuple #[]) ∧ w' = w.setCell a (.int .i32 0)) := by
  have hd := oDisable
  have he := oEnable
  have hr := oReleaseMerge
  have hadd := run_call_add (P := Tryd.prog) Tryd.func101 (by kernel_rfl) (by kernel_rfl) (by kernel_rfl) .i32 (by kernel_rfl) (y := -1) (s := 0) hc hz (by simp [go_sem]; rfl)
  have hcv := run_convert_to_unsafe (P := Tryd.prog) (src := 127) (dst := 131) Tryd.underlying127 Tryd.underlying131 (by kernel_rfl) hc
  go_enter_d Tryd.func80, Tryd.ntmps80
  go_wp2
  go_end0
  go_wp2
  go_end0
  exact ⟨rfl, rfl⟩

/-- '(*sync.Mutex).Lock', the lock free: state 1. -/
theorem oLock_free (a : Addr) (w : World) (hc : w.cell? a = some (.int .i32 0)) (hz : w.frozen? a = false) :
    Calls Tryd.prog 79 #[.pointer (some a)] w fun e w' => e = .returned (.tuple #[]) ∧ w' = w.setCell a (.int .i32 1) := by
  have hd := oDisable
  have he := oEnable
  have ha := oAcquire
  have hcas := run_call_cas_hit (P := Tryd.prog) Tryd.func96 (by kernel_rfl) (by kernel_rfl) (by kernel_rfl) .i32 (by kernel_rfl) (y := 1) hc hz
  have hc' : (w.setCell a (.int .i32 1)).cell? a = some (.int .i32 1) := World.cell?_setCell_same w a _ hc
  have hcv := run_convert_to_unsafe (P := Tryd.prog) (src := 127) (dst := 131) Tryd.underlying127 Tryd.underlying131 (by kernel_rfl) hc'
  go_enter Tryd.func79, Tryd.ntmps79
  go_wp2
  first | go_end0 | (simp only [Exit.inBlock, Exit.then]; refine bodyPost_ret (results_none rfl _ _ _) rfl ?_) | refine bodyPost_ret (results_none rfl _ _ _) rfl ?_
  go_wp2
  go_end0
  exact ⟨rfl, rfl⟩
end Go.Proofs.YtadnmiedmcckkaaDoor
end

section
/-
  Words are copied.
-/
namespace Go.Proofs.YtadnmiedmcckkaaDoor
open Go.ChangeShapes Go.WideShapes Go.ChangeAt Go.RowKit Go.Deep
set_option maxRecDepth 100000

theorem wcells_len (vs : List Nat) : (wcells vs).length = vs.length := by simp [wcells]
theorem wcells_get {vs : List Nat} {j : Nat} (h : j < vs.length) : (wcells vs)[j]? = some (.int .u32 (wd vs j : Int)) := by simp [wcells, wd, List.getD, h]
theorem wcells_splice (xs ys : List Nat) (o : Nat) : splice (wcells xs) o (wcells ys) = wcells (splice xs o ys) := by simp [wcells, splice]

/-- All words of block b are copied into block g. -/
theorem upon_copyW {o : Oper} {a : Act} {K : Act → World → Prop} {Q : Exit → Act → World → Prop} {W : World} {b g off dLen dCap : Nat} {us vs : List Nat} {t t' dT sT ty : TypeId} {n c : Nat} (hu : Tryd.prog.underlying dT = some (.slice 54)) (hg : Wr W g t us) (hb : Wr W b t' vs) (hn : vs.length = n) (hd : n ≤ dLen) (hfit : off + n ≤ us.length)
    (H : ∀ W', Hid (Wr W' g t (splice us off vs)) → Hid (∀ B, B ≤ g → Below B W W') → Oper.upon Tryd.prog o a K Q (.ok (Next.value (goInt n)) W')) :
    Oper.upon Tryd.prog o a K Q (((Builtin.copy_ #[dT, sT] ty #[.slice (some ⟨g, off, none⟩) dLen dCap, .slice (some ⟨b, 0, none⟩) n c]).run Tryd.prog W).andThen fun a w' => .ok (Next.value a) w') := by
  have hsz : (Tryd.prog.info? 54).map (·.size) = some 1 := rfl
  have hr := run_copy_row Tryd.prog W dT sT ty _ g off dLen dCap ⟨b, 0, none⟩ n c (wcells us).toArray t (wcells vs) hu hsz hg (by rw [wcells_len, hn]; exact (Nat.min_eq_left hd).symm) (fun j v hv => by
    have hj : j < vs.length := by
      rcases Nat.lt_or_ge j vs.length with q | q
      · exact q
      · rw [List.getElem?_eq_none (by rw [wcells_len]; exact q)] at hv; cases hv
    rw [wcells_get hj] at hv
    injection hv with hv
    subst hv
    have : (⟨b, 0, none⟩ : Addr).add j = ⟨b, j, none⟩ := by unfold Addr.add; split <;> simp_all
    rw [this]
    exact hb.cell hj) (by rw [wcells_len]; simp [wcells]; omega) (fun v hv => by
    obtain ⟨j, _, rfl⟩ := List.mem_map.1 hv
    rfl)
  rw [wcells_len, hn] at hr
  rw [hr]
  refine H _ ?_ (fun B hB => below_setRow (Below.refl _ _) hB _)
  have := setRow_heap W g _ (((wcells us).take off ++ wcells vs ++ (wcells us).drop (off + n)).toArray) t _ hg
  show _ = _
  rw [← wcells_splice]
  simpa [splice, wcells_len, hn, List.append_assoc] using this
end Go.Proofs.YtadnmiedmcckkaaDoor
end

section
/-
  octets.Low and OfLow alone (for seats that have no High).
-/
namespace Go.Proofs.YtadnmiedmcckkaaDoor
open Go.ChangeShapes Go.WideShapes Go.ChangeAt Go.RowKit Go.Deep

def lowL (n m : Nat) : List UInt8 := (List.range m).map fun i => UInt8.ofNat (n / 256 ^ i)
theorem lowL_len (n m : Nat) : (lowL n m).length = m := by simp [lowL]
theorem bt_lowL {n m k : Nat} (hk : k < m) : bt (lowL n m) k = n / 256 ^ k % 256 := by
  unfold bt lowL
  simp [List.getD, hk]

/-- What is left of the number when k bytes are told. -/
def lowAt (n k : Nat) : Nat := n / 256 ^ k
theorem lowAt_succ (n k : Nat) : lowAt n k / 256 = lowAt n (k + 1) := by unfold lowAt; rw [Nat.div_div_eq_div_mul, Nat.pow_succ]
theorem lowAt_le (n k : Nat) : lowAt n k ≤ n := Nat.div_le_self _ _

theorem lowAt_int (n k : Nat) : (lowAt n k : Int) / 256 = (lowAt n (k + 1) : Int) := by rw [← lowAt_succ]; omega
theorem lowAt_byte (n k : Nat) : (lowAt n k : Int) % 256 = ((n / 256 ^ k % 256 : Nat) : Int) := by
  show (lowAt n k : Int) % 256 = ((lowAt n k % 256 : Nat) : Int)
  omega

set_option maxHeartbeats 400000 in
theorem low_calls {n m : Nat} {many : Int} {w : World} (hn : n < 18446744073709551616) (h1 : 0 ≤ many) (h2 : many ≤ 9223372036854775807) (hm8 : m ≤ 8) (hM : (if (8 : Int) < many then 8 else many) = (m : Int)) :
    Calls Tryd.prog 68 #[.int .u64 (n : Int), .int .i64 many] w (RetBs (lowL n m) w) := by
  have hmk := make8 m (by omega)
  have hz : lowAt n 0 = n := by simp [lowAt]
  go_enter Tryd.func68, Tryd.ntmps68
  go_wp2
  clear hmk hM
  go_loopw [0, 13] (fun x i wr => ∃ k : Nat, k ≤ m ∧ i = .int .i64 k ∧ x = .int .u64 (lowAt n k : Int) ∧ Fill w wr m k (fun j => n / 256 ^ j % 256)) (fun _ i _ => m - (intOf i).toNat)
  case atStart => exact ⟨0, Nat.zero_le _, rfl, by rw [hz], Fill.start _ _ _⟩
  case round =>
    obtain ⟨k, hk, rfl, rfl, hf⟩ := hrel
    clear hz
    by_cases hlt : k < m
    · have g3 := hf.cell hlt
      have g4 := hf.frozen k
      have hle := Nat.lt_of_le_of_lt (lowAt_le n k) hn
      go_wp2
      go_roundw
      case rel =>
        exact ⟨k + 1, by omega, by go_num, congrArg (Value.int .u64) (lowAt_int n k), hf.step (lowAt_byte n k)⟩
      case measure => simp [intOf]; omega
    · obtain rfl : k = m := by omega
      go_wp2
      go_ret
      exact ⟨_, _, _, rfl, hf.done (lowL_len n k) (by omega) (fun j hj => (bt_lowL hj).symm), hf.1⟩

/-- The number of bytes, the lowest first. -/
def ofLowL : List UInt8 → Nat
  | [] => 0
  | x :: xs => x.toNat + 256 * ofLowL xs
theorem ofLowL_lt : ∀ xs : List UInt8, ofLowL xs < 256 ^ xs.length
  | [] => by simp [ofLowL]
  | x :: xs => by
    have h := ofLowL_lt xs
    have hx : x.toNat < 256 := x.toNat_lt
    simp only [ofLowL, List.length_cons, Nat.pow_succ]
    omega
theorem ofLowL_append : ∀ (xs : List UInt8) (y : UInt8), ofLowL (xs ++ [y]) = ofLowL xs + 256 ^ xs.length * y.toNat
  | [], y => by simp [ofLowL]
  | x :: xs, y => by
    rw [List.cons_append, ofLowL, ofLowL_append xs y, ofLowL, List.length_cons, Nat.pow_succ, Nat.mul_add, Nat.mul_comm (256 ^ xs.length) 256, Nat.mul_assoc, Nat.add_assoc]
/-- The number of the first k bytes. -/
def ofLowAt (xs : List UInt8) (k : Nat) : Nat := ofLowL (xs.take k)
theorem ofLowAt_succ {xs : List UInt8} {k : Nat} (h : k < xs.length) : ofLowAt xs (k + 1) = ofLowAt xs k + 256 ^ k * bt xs k := by
  unfold ofLowAt
  rw [List.take_succ_eq_append_getElem h, ofLowL_append, List.length_take, Nat.min_eq_left (by omega)]
  simp [bt, List.getD, h]
theorem ofLowAt_lt {xs : List UInt8} {k : Nat} (h : k ≤ xs.length) : ofLowAt xs k < 256 ^ k := by
  have := ofLowL_lt (xs.take k)
  rwa [List.length_take, Nat.min_eq_left h] at this

theorem ofLow_bits {xs : List UInt8} {k : Nat} (h : k < xs.length) (hk : k < 8) :
    bits .or .u64 (ofLowAt xs k : Int) (IntKind.u64.wrap ((bt xs k : Int) * 2 ^ (8 * k))) = (ofLowAt xs (k + 1) : Int) := by
  have h1 := ofLowAt_lt (xs := xs) (k := k) (by omega)
  have hb := bt_lt xs k
  have hp : (256 : Nat) ^ k = 2 ^ (8 * k) := by rw [Nat.pow_mul]
  have hpk : (2 : Nat) ^ (8 * k) ≤ 2 ^ 56 := Nat.pow_le_pow_right (by omega) (by omega)
  have hlt : bt xs k * 2 ^ (8 * k) < 18446744073709551616 := by
    have : bt xs k * 2 ^ (8 * k) ≤ 255 * 2 ^ 56 := Nat.mul_le_mul (by omega) hpk
    omega
  have hc : ((bt xs k : Int) * 2 ^ (8 * k)) = ((bt xs k * 2 ^ (8 * k) : Nat) : Int) := by push_cast; rfl
  rw [hc, IntWalk.u64_in _ (by omega), ofLowAt_succ h, hp]
  rw [hp] at h1
  generalize ofLowAt xs k = y at *
  have hy : y < 18446744073709551616 := by omega
  rw [u64_or_nat _ _ hy hlt, Nat.or_comm, nat_join (8 * k) _ _ (Nat.mul_mod_left _ _) h1, Nat.mul_comm, Nat.add_comm]

set_option maxHeartbeats 400000 in
theorem ofLow_calls {A : Option Addr} {n c : Nat} {m : Nat} {xs : List UInt8} {w : World} (h : Bs w A n c xs) (hm8 : m ≤ 8) (hmn : m ≤ n) (hM : (if (8 : Int) < (n : Int) then 8 else (n : Int)) = (m : Int)) :
    Calls Tryd.prog 92 #[.slice A n c] w fun e w' => e = .returned (.int .u64 (ofLowL (xs.take m) : Int)) ∧ w' = w := by
  have h1 := h.le
  have h2 := h.cap
  go_enter Tryd.func92, Tryd.ntmps92
  go_wp2
  clear hM
  go_loop [3, 8] (fun x i => ∃ k : Nat, k ≤ m ∧ i = .int .i64 k ∧ x = .int .u64 (ofLowAt xs k : Int)) (fun _ i => m - (intOf i).toNat)
  case atStart => exact ⟨0, Nat.zero_le _, rfl, rfl⟩
  case round =>
    obtain ⟨k, hk, rfl, rfl⟩ := hrel
    by_cases hlt : k < m
    · obtain ⟨b, off, rfl, hb, hc⟩ := h.pos (by omega)
      have g1 := hc k (by omega)
      have hbt := bt_lt xs k
      clear hc
      go_wp2
      go_round
      case rel =>
        exact ⟨k + 1, by omega, by go_num, congrArg (Value.int .u64) (ofLow_bits (by rw [h.len]; omega) (by omega))⟩
      case measure => simp [intOf]; omega
    · obtain rfl : k = m := by omega
      go_wp2
      go_ret
      exact ⟨rfl, rfl⟩
end Go.Proofs.YtadnmiedmcckkaaDoor
end

section
/-
  bits.RotateLeft32 by -16, -12, -8, -7.
-/
namespace Go.Proofs.YtadnmiedmcckkaaDoor
open Go.ChangeShapes Go.WideShapes Go.ChangeAt Go.RowKit Go.Deep

theorem rotr_int {n x : Nat} (hn : n ≤ 32) (hx : x < 4294967296) : bits .or .u32 ((x : Int) * 2 ^ (32 - n) % 4294967296) ((x : Int) / 2 ^ n) = (rotr n x : Int) := by
  have h1 : (x : Int) * 2 ^ (32 - n) % 4294967296 = ((x * 2 ^ (32 - n) % 4294967296 : Nat) : Int) := by simp
  have h2 : (x : Int) / 2 ^ n = ((x / 2 ^ n : Nat) : Int) := by simp
  rw [h1, h2, u32_or_nat _ _ (Nat.mod_lt _ (by omega)) (Nat.lt_of_le_of_lt (Nat.div_le_self _ _) hx)]
  rfl

set_option maxHeartbeats 1000000 in
theorem rot_calls {n x : Nat} {k : Int} {w : World} (hx : x < 4294967296) (hk : bits .and .u64 (IntKind.u64.wrap k) 31 = ((32 - n : Nat) : Int)) (h1 : 1 ≤ n) (h2 : n ≤ 31) :
    Calls Tryd.prog 93 #[.int .u32 (x : Int), .int .i64 k] w fun e w' => e = .returned (.int .u32 (rotr n x : Int)) ∧ w' = w := by
  have hs : ∃ s : Nat, 32 - n = s ∧ s ≤ 31 ∧ n = 32 - s := ⟨32 - n, rfl, by omega, by omega⟩
  obtain ⟨s, e1, e2, e3⟩ := hs
  have hf := Lib.hid (rotr_int (n := n) (by omega) hx)
  rw [e1] at hk hf
  have hd : IntKind.u64.wrap (32 - (s : Int)) = (n : Int) := by rw [IntWalk.u64_in _ (by omega)]; omega
  go_enter Tryd.func93, Tryd.ntmps93
  go_wp2_with fail
  go_ret
  refine ⟨congrArg (fun v => Ending.returned (Value.int .u32 v)) (Eq.trans ?_ hf.out), rfl⟩
  rw [e3]
theorem rot16 {x : Nat} {w : World} (hx : x < 4294967296) :
    Calls Tryd.prog 93 #[.int .u32 (x : Int), .int .i64 (-16)] w fun e w' => e = .returned (.int .u32 (rotr 16 x : Int)) ∧ w' = w := rot_calls hx (by decide) (by omega) (by omega)
theorem rot12 {x : Nat} {w : World} (hx : x < 4294967296) :
    Calls Tryd.prog 93 #[.int .u32 (x : Int), .int .i64 (-12)] w fun e w' => e = .returned (.int .u32 (rotr 12 x : Int)) ∧ w' = w := rot_calls hx (by decide) (by omega) (by omega)
theorem rot8 {x : Nat} {w : World} (hx : x < 4294967296) :
    Calls Tryd.prog 93 #[.int .u32 (x : Int), .int .i64 (-8)] w fun e w' => e = .returned (.int .u32 (rotr 8 x : Int)) ∧ w' = w := rot_calls hx (by decide) (by omega) (by omega)
theorem rot7 {x : Nat} {w : World} (hx : x < 4294967296) :
    Calls Tryd.prog 93 #[.int .u32 (x : Int), .int .i64 (-7)] w fun e w' => e = .returned (.int .u32 (rotr 7 x : Int)) ∧ w' = w := rot_calls hx (by decide) (by omega) (by omega)
theorem rotl16 {x : Nat} {w : World} (hx : x < 4294967296) :
    Calls Tryd.prog 93 #[.int .u32 (x : Int), .int .i64 16] w fun e w' => e = .returned (.int .u32 (rotr 16 x : Int)) ∧ w' = w := rot_calls hx (by decide) (by omega) (by omega)
theorem rotl12 {x : Nat} {w : World} (hx : x < 4294967296) :
    Calls Tryd.prog 93 #[.int .u32 (x : Int), .int .i64 12] w fun e w' => e = .returned (.int .u32 (rotr 20 x : Int)) ∧ w' = w := rot_calls hx (by decide) (by omega) (by omega)
theorem rotl8 {x : Nat} {w : World} (hx : x < 4294967296) :
    Calls Tryd.prog 93 #[.int .u32 (x : Int), .int .i64 8] w fun e w' => e = .returned (.int .u32 (rotr 24 x : Int)) ∧ w' = w := rot_calls hx (by decide) (by omega) (by omega)
theorem rotl7 {x : Nat} {w : World} (hx : x < 4294967296) :
    Calls Tryd.prog 93 #[.int .u32 (x : Int), .int .i64 7] w fun e w' => e = .returned (.int .u32 (rotr 25 x : Int)) ∧ w' = w := rot_calls hx (by decide) (by omega) (by omega)
end Go.Proofs.YtadnmiedmcckkaaDoor
end
