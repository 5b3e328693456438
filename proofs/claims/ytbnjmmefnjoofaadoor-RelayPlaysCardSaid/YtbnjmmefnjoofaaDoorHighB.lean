/-
  octets.High (over LowB): for seats without layer 1's laws.
-/
import Derived.Test.YtbnjmmefnjoofaaDoorLowB
namespace Go.Proofs.YtbnjmmefnjoofaaDoor
open Go.ChangeShapes Go.WideShapes Go.ChangeAt Go.RowKit Go.Deep

theorem bt_reverse {xs : List UInt8} {k : Nat} (hk : k < xs.length) : bt xs.reverse k = bt xs (xs.length - 1 - k) := by
  unfold bt
  simp [List.getD, hk, List.getElem?_reverse, show xs.length - 1 - k < xs.length by omega]

/-- A row of bytes of the call's own that is filled from its end on. -/
def FillBack (w wr : World) (n k : Nat) (f : Nat → Nat) : Prop := Ext w wr ∧ wr.rowIs w.heap.size 5 n (fun i => if n ≤ i + k then .int .u8 (f i : Int) else .int .u8 0)
theorem FillBack.step {w wr : World} {n k : Nat} {f : Nat → Nat} (h : FillBack w wr n k f) {j : Nat} (hj : j + k + 1 = n) {u : Int} (hu : u = (f j : Int)) :
    FillBack w (wr.setCell ⟨w.heap.size, j, none⟩ (.int .u8 u)) n (k + 1) f := by
  subst hu
  refine ⟨h.1.setCell (Nat.le_refl _) _, (h.2.set j _).congr fun i _ => ?_⟩
  by_cases e : i = j
  · subst e; simp only [if_true]; rw [if_pos (by omega)]
  · simp only [if_neg e]
    by_cases hi : n ≤ i + k
    · rw [if_pos hi, if_pos (by omega)]
    · rw [if_neg hi, if_neg (by omega)]

set_option maxHeartbeats 400000 in
theorem reversed_calls {A : Option Addr} {n c : Nat} {xs : List UInt8} {w : World} (h : Bs w A n c xs) (hm : n ≤ 281474976710656) :
    Calls Tryd.prog 65 #[.slice A n c] w (RetBs xs.reverse w) := by
  have h1 := h.le
  have h2 := h.cap
  have hmk := make8 n hm
  go_enter Tryd.func65, Tryd.ntmps65
  go_wp2
  clear hmk
  go_loopw [10] (fun i wr => ∃ k : Nat, k ≤ n ∧ i = .int .i64 k ∧ FillBack w wr n k (fun j => bt xs (n - 1 - j))) (fun i _ => n - (intOf i).toNat)
  case atStart => exact ⟨0, Nat.zero_le _, rfl, (Ext.refl w).alloc _, (World.rowIs_made w _ n _).congr fun i hi => by rw [if_neg (by omega)]⟩
  case round =>
    obtain ⟨k, hk, rfl, hf⟩ := hrel
    by_cases hlt : k < n
    · obtain ⟨b, off, rfl, hb, hc⟩ := h.pos (by omega)
      have g1 := (hf.1.cell (p := ⟨b, off + k, none⟩) hb).trans (hc k hlt)
      have g3 := hf.2.cell (i := n - 1 - k) (by omega)
      rw [if_neg (by omega)] at g3
      have g4 := hf.2.frozen (n - 1 - k)
      clear hc
      go_wp2
      go_roundw
      case rel =>
        exact ⟨k + 1, by omega, by go_num, hf.step (by omega) (by rw [show n - 1 - (n - 1 - k) = k by omega])⟩
      case measure => simp [intOf]; omega
    · obtain rfl : k = n := by omega
      go_wp2
      go_ret
      refine ⟨_, _, _, rfl, ?_, hf.1⟩
      refine ⟨by rw [List.length_reverse, h.len], Nat.le_refl _, by unfold maxLen; omega, fun _ => ⟨w.heap.size, 0, rfl, hf.2.lt, fun j hj => ?_⟩⟩
      rw [Nat.zero_add, hf.2.cell hj, if_pos (by omega), bt_reverse (by rw [h.len]; exact hj), h.len]

set_option maxHeartbeats 400000 in
theorem high_calls {n m : Nat} {many : Int} {w : World} (hn : n < 18446744073709551616) (h1 : 0 ≤ many) (h2 : many ≤ 9223372036854775807) (hm8 : m ≤ 8) (hM : (if (8 : Int) < many then 8 else many) = (m : Int)) :
    Calls Tryd.prog 41 #[.int .u64 (n : Int), .int .i64 many] w (RetBs (lowL n m).reverse w) := by
  have hM' := Lib.hid hM
  clear hM
  go_enter Tryd.func41, Tryd.ntmps41
  go_wp2_with fail
  refine (low_calls hn h1 h2 hm8 hM'.out).mono ?_
  rintro e w1 ⟨A, k, c, rfl, hb, he⟩
  go_wp2_with fail
  have hk : k ≤ 8 := by have := hb.len; rw [lowL_len] at this; omega
  refine (reversed_calls hb (by omega)).mono ?_
  rintro e w2 ⟨A, k, c, rfl, hb2, he2⟩
  go_wp2_with fail
  go_ret
  exact ⟨_, _, _, rfl, hb2, he.trans he2⟩
end Go.Proofs.YtbnjmmefnjoofaaDoor
