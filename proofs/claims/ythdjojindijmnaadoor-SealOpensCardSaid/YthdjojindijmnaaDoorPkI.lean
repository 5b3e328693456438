import Derived.Test.YthdjojindijmnaaDoorSealer
import Derived.Test.YthdjojindijmnaaDoorTurn
import Derived.Test.YthdjojindijmnaaDoorLowB
import Derived.Test.YthdjojindijmnaaDoorPkL
import Derived.Test.YthdjojindijmnaaDoorSeq
section
/-
  (seal.sealer).turn; parts of a block of bytes.
-/
namespace Go.Proofs.YthdjojindijmnaaDoor
open Go.ChangeShapes Go.WideShapes Go.ChangeAt Go.RowKit Go.Deep
set_option maxRecDepth 100000

theorem part_cells {w : World} {g o : Nat} {t : TypeId} {p x q S : List UInt8} (h : w.heap[g]? = some (.cells (cellsOf S).toArray t (0, 0))) (hS : S = p ++ x ++ q) (ho : p.length = o) : ∀ j v, (cellsOf x)[j]? = some v → w.cell? ⟨g, o + j, none⟩ = some v := fun j v hv => by
  have hj := (List.getElem?_eq_some_iff.1 hv).1
  rw [cell_of_row w g _ _ _ (0, 0) h, List.getElem?_toArray, hS, cellsOf_append, cellsOf_append]
  rw [List.getElem?_append_left (by rw [List.length_append, cellsOf_len, ho]; omega), List.getElem?_append_right (by rw [cellsOf_len, ho]; omega), cellsOf_len, ho, Nat.add_sub_cancel_left]
  exact hv
theorem part_bs {w : World} {g o n : Nat} {t : TypeId} {p x q S : List UInt8} (h : w.heap[g]? = some (.cells (cellsOf S).toArray t (0, 0))) (hS : S = p ++ x ++ q) (ho : p.length = o) (hx : x.length = n) (hn : n ≤ 1000000) : Bs w (some ⟨g, o, none⟩) n n x :=
  ⟨hx, Nat.le_refl _, by unfold maxLen; omega, fun _ => ⟨g, o, rfl, heap_lt h, fun j hj => part_cells h hS ho j _ (cellsOf_get (by omega))⟩⟩

def non0 : List UInt8 := List.replicate 12 0
theorem non0_built : Tryd.prog.built 73 [] = some (cellsOf non0).toArray := by kernel_rfl

set_option maxHeartbeats 1000000 in
theorem sturn_calls {A : Option Addr} {n c : Nat} {a t k S bs : List UInt8} {w : World} (ha : a.length = 32) (hS : S = a ++ t ++ k) (h : Bs w A n c bs) (hn : n ≤ 100000000) :
    Calls Tryd.prog 34 #[.agg (cellsOf S).toArray, .slice A n c] w (RetOwn (turnL a non0 0 bs) w) := by
  have TURN : Hid (∀ W, Ext w W → Calls Tryd.prog 44 #[.agg (cellsOf a).toArray, .agg (cellsOf non0).toArray, .int .u32 0, .slice A n c] W (RetOwn (turnL a non0 0 bs) W)) := fun W e => turn_own (n := 0) ha rfl (by omega) (h.ext e) (by omega)
  have hb := non0_built
  generalize non0 = nn at *
  have KA : (cellsOf a).length = 32 := by rw [cellsOf_len, ha]
  have R0 : Hid (∀ j v, (cellsOf a)[j]? = some v → (w.alloc (Obj.cells (cellsOf S).toArray 58)).cell? ⟨w.heap.size, 0 + j, none⟩ = some v) := part_cells (p := []) (q := t ++ k) (heap_alloc_new _ _) (by rw [hS]; simp) rfl
  have h1 := h.le
  have h2 := h.cap
  clear h hS
  go_enter Tryd.func34, Tryd.ntmps34
  go_wp2_with (first
    | (refine wpList_exec rfl (exec_load_mid (ys := cellsOf a) (g := w.heap.size) (off := 0) rfl rfl R0.out rfl rfl (by rw [KA]; rfl)) ?_; simp only [Act.put, List.setIfInBounds_toArray, List.set_cons_zero, List.set_cons_succ])
    | (refine wpList_build_as rfl _ _ rfl (cellsOf nn).toArray (by simp only [List.map_toArray, List.map_nil]; exact hb) ?_; simp only [Act.put, List.setIfInBounds_toArray, List.set_cons_zero, List.set_cons_succ]))
  refine (TURN.out _ ((Ext.refl w).alloc _)).mono ?_
  rintro e w1 ⟨A1, n1, c1, rfl, b1, e1⟩
  go_wp2_with fail
  go_ret
  exact ⟨_, _, _, rfl, b1.lower (by rw [size_alloc]; omega), ((Ext.refl w).alloc _).trans e1⟩
end Go.Proofs.YthdjojindijmnaaDoor
end

section
/-
  octets.High (over LowB): for seats without layer 1's laws.
-/
namespace Go.Proofs.YthdjojindijmnaaDoor
open Go.ChangeShapes Go.WideShapes Go.ChangeAt Go.RowKit Go.Deep

theorem bt_reverse {xs : List UInt8} {k : Nat} (hk : k < xs.length) : bt xs.reverse k = bt xs (xs.length - 1 - k) := by
  unfold bt
  simp [List.getD, hk, List.getElem?_reverse, show xs.length - 1 - k < xs.length by omega]

/-- A row of bytes of the call's own that is filled from its end on. -/
def FillBack (w wr : World) (n k : Nat) (f : Nat → Nat) : Prop := Ext w wr ∧ wr.rowIs w.heap.size 5 n (fun i => if n ≤ i + k then .int .u8 (f i : Int) else .int .u8 0)
theorem FillBack.step {w wr : World} {n k : Nat} {f : Nat → Nat} (h : FillBack w wr n k f) {j : Nat} (hj : j + k + 1 = n) {u : Int} (hu : u = (f j : Int)) :
    FillBack w (wr.setCell ⟨w.heap.size, j, none⟩ (.int .u8 u)) n (k + 1) f := by
  subst hu
  refine ⟨h.1.setCell (Nat.le_refl _) _, (h.2.set j _).congr fun i _ => ?_⟩
  by_cases e : i = j
  · subst e; simp only [if_true]; rw [if_pos (by omega)]
  · simp only [if_neg e]
    by_cases hi : n ≤ i + k
    · rw [if_pos hi, if_pos (by omega)]
    · rw [if_neg hi, if_neg (by omega)]

set_option maxHeartbeats 400000 in
theorem reversed_calls {A : Option Addr} {n c : Nat} {xs : List UInt8} {w : World} (h : Bs w A n c xs) (hm : n ≤ 281474976710656) :
    Calls Tryd.prog 63 #[.slice A n c] w (RetBs xs.reverse w) := by
  have h1 := h.le
  have h2 := h.cap
  have hmk := make8 n hm
  go_enter Tryd.func63, Tryd.ntmps63
  go_wp2
  clear hmk
  go_loopw [10] (fun i wr => ∃ k : Nat, k ≤ n ∧ i = .int .i64 k ∧ FillBack w wr n k (fun j => bt xs (n - 1 - j))) (fun i _ => n - (intOf i).toNat)
  case atStart => exact ⟨0, Nat.zero_le _, rfl, (Ext.refl w).alloc _, (World.rowIs_made w _ n _).congr fun i hi => by rw [if_neg (by omega)]⟩
  case round =>
    obtain ⟨k, hk, rfl, hf⟩ := hrel
    by_cases hlt : k < n
    · obtain ⟨b, off, rfl, hb, hc⟩ := h.pos (by omega)
      have g1 := (hf.1.cell (p := ⟨b, off + k, none⟩) hb).trans (hc k hlt)
      have g3 := hf.2.cell (i := n - 1 - k) (by omega)
      rw [if_neg (by omega)] at g3
      have g4 := hf.2.frozen (n - 1 - k)
      clear hc
      go_wp2
      go_roundw
      case rel =>
        exact ⟨k + 1, by omega, by go_num, hf.step (by omega) (by rw [show n - 1 - (n - 1 - k) = k by omega])⟩
      case measure => simp [intOf]; omega
    · obtain rfl : k = n := by omega
      go_wp2
      go_ret
      refine ⟨_, _, _, rfl, ?_, hf.1⟩
      refine ⟨by rw [List.length_reverse, h.len], Nat.le_refl _, by unfold maxLen; omega, fun _ => ⟨w.heap.size, 0, rfl, hf.2.lt, fun j hj => ?_⟩⟩
      rw [Nat.zero_add, hf.2.cell hj, if_pos (by omega), bt_reverse (by rw [h.len]; exact hj), h.len]

set_option maxHeartbeats 400000 in
theorem high_calls {n m : Nat} {many : Int} {w : World} (hn : n < 18446744073709551616) (h1 : 0 ≤ many) (h2 : many ≤ 9223372036854775807) (hm8 : m ≤ 8) (hM : (if (8 : Int) < many then 8 else many) = (m : Int)) :
    Calls Tryd.prog 50 #[.int .u64 (n : Int), .int .i64 many] w (RetBs (lowL n m).reverse w) := by
  have hM' := Lib.hid hM
  clear hM
  go_enter Tryd.func50, Tryd.ntmps50
  go_wp2_with fail
  refine (low_calls hn h1 h2 hm8 hM'.out).mono ?_
  rintro e w1 ⟨A, k, c, rfl, hb, he⟩
  go_wp2_with fail
  have hk : k ≤ 8 := by have := hb.len; rw [lowL_len] at this; omega
  refine (reversed_calls hb (by omega)).mono ?_
  rintro e w2 ⟨A, k, c, rfl, hb2, he2⟩
  go_wp2_with fail
  go_ret
  exact ⟨_, _, _, rfl, hb2, he.trans he2⟩
end Go.Proofs.YthdjojindijmnaaDoor
end

section
/-
  Slices of slices of bytes (Rw), and Light: for seats without layer 1's laws.
-/
namespace Go.Proofs.YthdjojindijmnaaDoor
open Go.ChangeShapes Go.WideShapes Go.ChangeAt Go.RowKit Go.Deep

/-- The slice '.slice A n c' reads as the rows l. -/
def Rw (w : World) (A : Option Addr) (n c : Nat) (l : List (List UInt8)) : Prop :=
  l.length = n ∧ n ≤ c ∧ c ≤ maxLen ∧ (0 < n → ∃ b off, A = some ⟨b, off, none⟩ ∧ b < w.heap.size ∧ ∀ j, j < n → ∃ A' n' c', w.cell? ⟨b, off + j, none⟩ = some (.slice A' n' c') ∧ Bs w A' n' c' (l.getD j []))

section
variable {w w' : World} {A : Option Addr} {n c : Nat} {l : List (List UInt8)}
theorem Rw.len (h : Rw w A n c l) : l.length = n := h.1
theorem Rw.le (h : Rw w A n c l) : n ≤ c := h.2.1
theorem Rw.cap (h : Rw w A n c l) : c ≤ 9223372036854775807 := h.2.2.1
theorem Rw.nil (w : World) : Rw w none 0 0 [] := ⟨rfl, Nat.le_refl _, Nat.zero_le _, fun h => absurd h (by omega)⟩
theorem Rw.pos (h : Rw w A n c l) (hn : 0 < n) : ∃ b off, A = some ⟨b, off, none⟩ ∧ b < w.heap.size ∧ ∀ j, j < n → ∃ A' n' c', w.cell? ⟨b, off + j, none⟩ = some (.slice A' n' c') ∧ Bs w A' n' c' (l.getD j []) := h.2.2.2 hn
theorem Rw.ext (h : Rw w A n c l) (he : Ext w w') : Rw w' A n c l :=
  ⟨h.1, h.2.1, h.2.2.1, fun hn => by
    obtain ⟨b, off, e, hb, hc⟩ := h.2.2.2 hn
    refine ⟨b, off, e, Nat.lt_of_lt_of_le hb he.size, fun j hj => ?_⟩
    obtain ⟨A', n', c', h1, h2⟩ := hc j hj
    exact ⟨A', n', c', (he.cell hb).trans h1, h2.ext he⟩⟩
end

/-- What Light reckons of the first k rows. -/
def lightAt (l : List (List UInt8)) : Nat → Nat
  | 0 => 0
  | k + 1 => lightAt l k + min (l.getD k []).length 10000
theorem lightAt_le (l : List (List UInt8)) : ∀ k, lightAt l k ≤ 10000 * k
  | 0 => by simp [lightAt]
  | k + 1 => by have := lightAt_le l k; rw [lightAt]; omega
def lightB (l : List (List UInt8)) : Bool := decide (l.length ≤ 60) && decide (lightAt l (min l.length 100) < 10000)

set_option maxHeartbeats 400000 in
theorem light_calls {A : Option Addr} {n c : Nat} {l : List (List UInt8)} {w : World} (h : Rw w A n c l) :
    Calls Tryd.prog 14 #[.slice A n c] w fun e w' => e = .returned (.bool (lightB l)) ∧ w' = w := by
  have h1 := h.le
  have h2 := h.cap
  obtain ⟨m, hm, hm1, hm2, hm3⟩ : ∃ m : Nat, Hid (min l.length 100 = m) ∧ m ≤ n ∧ m ≤ 100 ∧ Hid (m = n ∨ m = 100) := by
    refine ⟨min l.length 100, rfl, ?_, ?_, ?_⟩
    · rw [h.len]; omega
    · omega
    · unfold Hid; rw [h.len]; omega
  go_enter Tryd.func14, Tryd.ntmps14
  go_wp2
  go_loop [3, 4] (fun x i => ∃ k : Nat, k ≤ m ∧ i = .int .i64 k ∧ x = .int .i64 (lightAt l k : Int)) (fun _ i => m - (intOf i).toNat)
  case atStart => exact ⟨0, Nat.zero_le _, rfl, rfl⟩
  case round =>
    obtain ⟨k, hk, rfl, rfl⟩ := hrel
    have hle := lightAt_le l k
    by_cases hlt : k < m
    · obtain ⟨b, off, rfl, hb, hc⟩ := h.pos (by omega)
      obtain ⟨A', n', c', g1, g2⟩ := hc k (by omega)
      have hs : Hid ((lightAt l k : Int) + (if (10000 : Int) < (n' : Int) then 10000 else (n' : Int)) = (lightAt l (k + 1) : Int)) := by
        unfold Hid
        rw [lightAt, g2.len]
        by_cases q : 10000 < n'
        · rw [if_pos (by omega)]; omega
        · rw [if_neg (by omega)]; omega
      have t1 : (k : Int) < 100 := by omega
      have t2 : (k : Int) < (n : Int) := by omega
      have t3 := g2.le
      have t4 := g2.cap
      obtain ⟨q, hq, hq1⟩ : ∃ q : Nat, (if (10000 : Int) < (n' : Int) then 10000 else (n' : Int)) = (q : Int) ∧ q ≤ 10000 := by
        by_cases q : 10000 < n'
        · exact ⟨10000, by rw [if_pos (by omega)]; rfl, by omega⟩
        · exact ⟨n', by rw [if_neg (by omega)], by omega⟩
      have hs' : Hid ((lightAt l k : Int) + (q : Int) = (lightAt l (k + 1) : Int)) := by unfold Hid; rw [← hs.out, hq]
      clear hc hs
      go_wp2
      go_round
      case rel => exact ⟨k + 1, by omega, by go_num, congrArg (Value.int .i64) hs'.out⟩
      case measure => simp [intOf]; omega
    · obtain rfl : k = m := by omega
      have hfin : Hid (lightB l = (decide (n ≤ 60) && decide (lightAt l k < 10000))) := by unfold Hid lightB; rw [hm.out, h.len]
      clear hlt
      have fin : ∀ b : Bool, b = (decide (n ≤ 60) && decide (lightAt l k < 10000)) → b = lightB l := fun b e => e.trans hfin.out.symm
      have FIN := Lib.hid fin
      clear fin
      by_cases q6 : n ≤ 60
      · obtain rfl : k = n := by rcases hm3.out with e | e <;> omega
        by_cases q7 : lightAt l k < 10000
        · go_wp2
          go_ret
          exact ⟨ret_bool (FIN.out _ (by simp [q6, q7]; omega)), rfl⟩
        · go_wp2
          go_ret
          exact ⟨ret_bool (FIN.out _ (by simp [q6, q7]; omega)), rfl⟩
      · by_cases q8 : k = n
        · subst q8
          go_wp2
          go_ret
          exact ⟨ret_bool (FIN.out _ (by simp [q6])), rfl⟩
        · obtain rfl : k = 100 := by rcases hm3.out with e | e <;> omega
          have q9 : 100 < n := by omega
          go_wp2
          go_ret
          exact ⟨ret_bool (FIN.out _ (by simp [q6])), rfl⟩
end Go.Proofs.YthdjojindijmnaaDoor
end

section
/-
  octets.Join: for seats without layer 1's laws.
-/
namespace Go.Proofs.YthdjojindijmnaaDoor
open Go.ChangeShapes Go.WideShapes Go.ChangeAt Go.RowKit Go.Deep

/-- A row with its length ahead. -/
def row4 (x : List UInt8) : List UInt8 := (lowL x.length 4).reverse ++ x
def joinL (l : List (List UInt8)) : List UInt8 := l.flatMap row4
theorem row4_len (x : List UInt8) : (row4 x).length = 4 + x.length := by simp [row4, lowL_len]
theorem joinL_snoc {l : List (List UInt8)} {k : Nat} (h : k < l.length) : joinL (l.take (k + 1)) = joinL (l.take k) ++ row4 (l.getD k []) := by
  unfold joinL
  rw [List.take_succ_eq_append_getElem h, List.flatMap_append]
  simp [List.getD, h]
theorem joinL_len_snoc {l : List (List UInt8)} {k : Nat} (h : k < l.length) : (joinL (l.take (k + 1))).length = (joinL (l.take k)).length + (4 + (l.getD k []).length) := by
  rw [joinL_snoc h, List.length_append, row4_len]
theorem joinL_le (l : List (List UInt8)) (k : Nat) : (joinL (l.take k)).length ≤ (joinL l).length := by
  have : joinL l = joinL (l.take k) ++ joinL (l.drop k) := by unfold joinL; rw [← List.flatMap_append, List.take_append_drop]
  rw [this, List.length_append]
  omega
/-- How many bytes k rows have. -/
def sizeAt (l : List (List UInt8)) (k : Nat) : Nat := (joinL (l.take k)).length


set_option maxHeartbeats 1000000 in
theorem join_calls {A : Option Addr} {n c : Nat} {l : List (List UInt8)} {w : World} (h : Rw w A n c l) (hm : (joinL l).length ≤ 100000000) :
    Calls Tryd.prog 40 #[.slice A n c] w (RetBs (joinL l) w) := by
  have h1 := h.le
  have h2 := h.cap
  have hsz : Hid (sizeAt l n = (joinL l).length) := by unfold Hid sizeAt; rw [List.take_of_length_le (by rw [h.len]; omega)]
  have hszn : sizeAt l n ≤ 100000000 := by rw [hsz.out]; exact hm
  have hmk := make0 (sizeAt l n) (by omega)
  go_enter Tryd.func40, Tryd.ntmps40
  go_wp2
  go_loop [3, 11] (fun x i => ∃ k : Nat, k ≤ n ∧ i = .int .i64 k ∧ x = .int .i64 (sizeAt l k : Int)) (fun _ i => n - (intOf i).toNat)
  case atStart => exact ⟨0, Nat.zero_le _, rfl, rfl⟩
  case round =>
    obtain ⟨k, hk, rfl, rfl⟩ := hrel
    by_cases hlt : k < n
    · obtain ⟨b, off, rfl, hb, hc⟩ := h.pos (by omega)
      obtain ⟨A', n', c', g1, g2⟩ := hc k (by omega)
      have hs : Hid ((sizeAt l k : Int) + (4 + (n' : Int)) = (sizeAt l (k + 1) : Int)) := by
        unfold Hid sizeAt
        rw [joinL_len_snoc (by rw [h.len]; omega), g2.len]
        omega
      have hb1 : sizeAt l (k + 1) ≤ 100000000 := Nat.le_trans (joinL_le l (k + 1)) hm
      have hb2 : n' + sizeAt l k ≤ 100000000 := by have := hs.out; omega
      clear hc hmk
      go_wp2
      go_round
      case rel => exact ⟨k + 1, by omega, by go_num, congrArg (Value.int .i64) hs.out⟩
      case measure => simp [intOf]; omega
    · obtain rfl : k = n := by omega
      go_wp2
      clear hmk
      go_loopw [6, 25] (fun v i wr => ∃ (j cc : Nat) (D : Option Addr), j ≤ k ∧ i = .int .i64 j ∧ v = .slice D (sizeAt l j) cc ∧ Own w.heap.size wr D (sizeAt l j) cc (joinL (l.take j)) ∧ Ext w wr) (fun _ i _ => k - (intOf i).toNat)
      case atStart => exact ⟨0, _, _, Nat.zero_le _, rfl, rfl, Own.made w _ _ (Nat.le_refl _) (by omega), (Ext.refl w).alloc _⟩
      case round =>
        obtain ⟨j, cc, D, hj, rfl, rfl, ho, hE⟩ := hrel
        by_cases hlj : j < k
        · obtain ⟨b, off, rfl, hb, hc⟩ := h.pos (by omega)
          obtain ⟨A', n', c', g1', g2⟩ := hc j (by omega)
          have g1 := (hE.cell (p := ⟨b, off + j, none⟩) hb).trans g1'
          have t3 := g2.le
          have t4 := g2.cap
          have hszj := hE.size
          have hb1 : sizeAt l (j + 1) ≤ 100000000 := Nat.le_trans (joinL_le l (j + 1)) hm
          have hs : Hid (sizeAt l (j + 1) = sizeAt l j + 4 + n') := by
            unfold Hid sizeAt
            rw [joinL_len_snoc (by rw [h.len]; omega), g2.len]
            omega
          have hb2 : n' + 4 + sizeAt l j ≤ 100000000 := by have := hs.out; omega
          have hjn : Hid (joinL (l.take (j + 1)) = joinL (l.take j) ++ (lowL n' 4).reverse ++ l.getD j []) := by
            unfold Hid
            rw [joinL_snoc (by rw [h.len]; omega), row4, g2.len, List.append_assoc]
          clear hc g1'
          go_wp2_with fail
          refine (high_calls (m := 4) (by omega) (by omega) (by omega) (by omega) (by omega)).mono ?_
          rintro e w1 ⟨A1, n1, c1, rfl, b1, e1⟩
          obtain rfl : n1 = 4 := by rw [← b1.len, List.length_reverse, lowL_len]
          have hE1 := hE.trans e1
          have z1 := e1.size
          go_wp2_with (first
            | (at_builtin; refine wpList_append_bs rfl (B := w.heap.size) (s := .tmp 29) (x := .tmp 33) rfl rfl rfl (ho.ext e1) b1 (by omega) (by omega) ?_; intro D' cc' w2 ho2 hg2 hbl)
            | (at_builtin; refine wpList_append_bs rfl (B := w.heap.size) (s := .tmp 35) (x := .tmp 36) rfl rfl rfl ho2 (g2.ext (hE1.trans' hbl)) (by omega) (by have := hbl.size; omega) ?_; intro D3 cc3 w3 ho3 hg3 hbl3))
          go_roundw
          case rel => exact ⟨j + 1, cc3, D3, by omega, by go_num, by rw [hs.out], by rw [hs.out, hjn.out]; exact ho3, (hE1.trans' hbl).trans' hbl3⟩
          case measure => simp [intOf]; omega
        · obtain rfl : j = k := by omega
          go_wp2
          go_ret
          exact ⟨_, _, _, rfl, by have := ho.bs; rwa [List.take_of_length_le (by rw [h.len]; omega)] at this, hE⟩
end Go.Proofs.YthdjojindijmnaaDoor
end
