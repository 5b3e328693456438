/-
  octets.Join: for seats without layer 1's laws.
-/
import Derived.Test.YthdjojindijmnaaDoorHighB
import Derived.Test.YthdjojindijmnaaDoorRwB
namespace Go.Proofs.YthdjojindijmnaaDoor
open Go.ChangeShapes Go.WideShapes Go.ChangeAt Go.RowKit Go.Deep

/-- A row with its length ahead. -/
def row4 (x : List UInt8) : List UInt8 := (lowL x.length 4).reverse ++ x
def joinL (l : List (List UInt8)) : List UInt8 := l.flatMap row4
theorem row4_len (x : List UInt8) : (row4 x).length = 4 + x.length := by simp [row4, lowL_len]
theorem joinL_snoc {l : List (List UInt8)} {k : Nat} (h : k < l.length) : joinL (l.take (k + 1)) = joinL (l.take k) ++ row4 (l.getD k []) := by
  unfold joinL
  rw [List.take_succ_eq_append_getElem h, List.flatMap_append]
  simp [List.getD, h]
theorem joinL_len_snoc {l : List (List UInt8)} {k : Nat} (h : k < l.length) : (joinL (l.take (k + 1))).length = (joinL (l.take k)).length + (4 + (l.getD k []).length) := by
  rw [joinL_snoc h, List.length_append, row4_len]
theorem joinL_le (l : List (List UInt8)) (k : Nat) : (joinL (l.take k)).length ≤ (joinL l).length := by
  have : joinL l = joinL (l.take k) ++ joinL (l.drop k) := by unfold joinL; rw [← List.flatMap_append, List.take_append_drop]
  rw [this, List.length_append]
  omega
/-- How many bytes k rows have. -/
def sizeAt (l : List (List UInt8)) (k : Nat) : Nat := (joinL (l.take k)).length


set_option maxHeartbeats 1000000 in
theorem join_calls {A : Option Addr} {n c : Nat} {l : List (List UInt8)} {w : World} (h : Rw w A n c l) (hm : (joinL l).length ≤ 100000000) :
    Calls Tryd.prog 40 #[.slice A n c] w (RetBs (joinL l) w) := by
  have h1 := h.le
  have h2 := h.cap
  have hsz : Hid (sizeAt l n = (joinL l).length) := by unfold Hid sizeAt; rw [List.take_of_length_le (by rw [h.len]; omega)]
  have hszn : sizeAt l n ≤ 100000000 := by rw [hsz.out]; exact hm
  have hmk := make0 (sizeAt l n) (by omega)
  go_enter Tryd.func40, Tryd.ntmps40
  go_wp2
  go_loop [3, 11] (fun x i => ∃ k : Nat, k ≤ n ∧ i = .int .i64 k ∧ x = .int .i64 (sizeAt l k : Int)) (fun _ i => n - (intOf i).toNat)
  case atStart => exact ⟨0, Nat.zero_le _, rfl, rfl⟩
  case round =>
    obtain ⟨k, hk, rfl, rfl⟩ := hrel
    by_cases hlt : k < n
    · obtain ⟨b, off, rfl, hb, hc⟩ := h.pos (by omega)
      obtain ⟨A', n', c', g1, g2⟩ := hc k (by omega)
      have hs : Hid ((sizeAt l k : Int) + (4 + (n' : Int)) = (sizeAt l (k + 1) : Int)) := by
        unfold Hid sizeAt
        rw [joinL_len_snoc (by rw [h.len]; omega), g2.len]
        omega
      have hb1 : sizeAt l (k + 1) ≤ 100000000 := Nat.le_trans (joinL_le l (k + 1)) hm
      have hb2 : n' + sizeAt l k ≤ 100000000 := by have := hs.out; omega
      clear hc hmk
      go_wp2
      go_round
      case rel => exact ⟨k + 1, by omega, by go_num, congrArg (Value.int .i64) hs.out⟩
      case measure => simp [intOf]; omega
    · obtain rfl : k = n := by omega
      go_wp2
      clear hmk
      go_loopw [6, 25] (fun v i wr => ∃ (j cc : Nat) (D : Option Addr), j ≤ k ∧ i = .int .i64 j ∧ v = .slice D (sizeAt l j) cc ∧ Own w.heap.size wr D (sizeAt l j) cc (joinL (l.take j)) ∧ Ext w wr) (fun _ i _ => k - (intOf i).toNat)
      case atStart => exact ⟨0, _, _, Nat.zero_le _, rfl, rfl, Own.made w _ _ (Nat.le_refl _) (by omega), (Ext.refl w).alloc _⟩
      case round =>
        obtain ⟨j, cc, D, hj, rfl, rfl, ho, hE⟩ := hrel
        by_cases hlj : j < k
        · obtain ⟨b, off, rfl, hb, hc⟩ := h.pos (by omega)
          obtain ⟨A', n', c', g1', g2⟩ := hc j (by omega)
          have g1 := (hE.cell (p := ⟨b, off + j, none⟩) hb).trans g1'
          have t3 := g2.le
          have t4 := g2.cap
          have hszj := hE.size
          have hb1 : sizeAt l (j + 1) ≤ 100000000 := Nat.le_trans (joinL_le l (j + 1)) hm
          have hs : Hid (sizeAt l (j + 1) = sizeAt l j + 4 + n') := by
            unfold Hid sizeAt
            rw [joinL_len_snoc (by rw [h.len]; omega), g2.len]
            omega
          have hb2 : n' + 4 + sizeAt l j ≤ 100000000 := by have := hs.out; omega
          have hjn : Hid (joinL (l.take (j + 1)) = joinL (l.take j) ++ (lowL n' 4).reverse ++ l.getD j []) := by
            unfold Hid
            rw [joinL_snoc (by rw [h.len]; omega), row4, g2.len, List.append_assoc]
          clear hc g1'
          go_wp2_with fail
          refine (high_calls (m := 4) (by omega) (by omega) (by omega) (by omega) (by omega)).mono ?_
          rintro e w1 ⟨A1, n1, c1, rfl, b1, e1⟩
          obtain rfl : n1 = 4 := by rw [← b1.len, List.length_reverse, lowL_len]
          have hE1 := hE.trans e1
          have z1 := e1.size
          go_wp2_with (first
            | (at_builtin; refine wpList_append_bs rfl (B := w.heap.size) (s := .tmp 29) (x := .tmp 33) rfl rfl rfl (ho.ext e1) b1 (by omega) (by omega) ?_; intro D' cc' w2 ho2 hg2 hbl)
            | (at_builtin; refine wpList_append_bs rfl (B := w.heap.size) (s := .tmp 35) (x := .tmp 36) rfl rfl rfl ho2 (g2.ext (hE1.trans' hbl)) (by omega) (by have := hbl.size; omega) ?_; intro D3 cc3 w3 ho3 hg3 hbl3))
          go_roundw
          case rel => exact ⟨j + 1, cc3, D3, by omega, by go_num, by rw [hs.out], by rw [hs.out, hjn.out]; exact ho3, (hE1.trans' hbl).trans' hbl3⟩
          case measure => simp [intOf]; omega
        · obtain rfl : j = k := by omega
          go_wp2
          go_ret
          exact ⟨_, _, _, rfl, by have := ho.bs; rwa [List.take_of_length_le (by rw [h.len]; omega)] at this, hE⟩
end Go.Proofs.YthdjojindijmnaaDoor
