/-
  octets.Xor gives the bytes turned where the others have bits, or ErrArg if the lengths differ.
-/
import Derived.Test.YthdjojindijmnaaDoorSameL
import Derived.RegionTactic
namespace Go.Proofs.YthdjojindijmnaaDoor
open Go.ChangeShapes Go.WideShapes Go.ChangeAt Go.RowKit Go.Deep

def xorL (xs ys : List UInt8) : List UInt8 := List.zipWith (· ^^^ ·) xs ys
theorem xorL_len {xs ys : List UInt8} (h : xs.length = ys.length) : (xorL xs ys).length = xs.length := by simp [xorL, h]
theorem bt_xorL {xs ys : List UInt8} (h : xs.length = ys.length) {k : Nat} (hk : k < xs.length) : bt (xorL xs ys) k = bt xs k ^^^ bt ys k := by
  unfold bt xorL
  simp [List.getD, List.getElem?_zipWith, hk, show k < ys.length by omega]
theorem u8_xorL (xs ys : List UInt8) (k : Nat) : bits .xor .u8 (bt xs k : Int) (bt ys k : Int) = ((bt xs k ^^^ bt ys k : Nat) : Int) := u8_xor_nat _ _ (bt_lt _ _) (bt_lt _ _)

set_option maxHeartbeats 400000 in
theorem xor_other {A A' : Option Addr} {n c n' c' : Nat} {w : World} (hn : n ≠ n') (hc : c ≤ 9223372036854775807) (hc' : c' ≤ 9223372036854775807) (h : n ≤ c) (h' : n' ≤ c') :
    Calls Tryd.prog 56 #[.slice A n c, .slice A' n' c'] w fun e w' => e = .returned (.tuple #[.slice none 0 0, .int .i64 1]) ∧ w' = w := by
  have hb : ((n : Int) != (n' : Int)) = true := by rw [bne_iff_ne]; omega
  go_enter Tryd.func56, Tryd.ntmps56
  go_wp2
  go_ret2
  exact ⟨rfl, rfl⟩

set_option maxHeartbeats 400000 in
theorem xor_calls {A A' : Option Addr} {n c c' : Nat} {xs ys : List UInt8} {w : World} (h : Bs w A n c xs) (h' : Bs w A' n c' ys) (hm : n ≤ 281474976710656) :
    Calls Tryd.prog 56 #[.slice A n c, .slice A' n c'] w (RetBsE (xorL xs ys) 0 w) := by
  have h1 := h.le
  have h2 := h.cap
  have h3 := h'.le
  have h4 := h'.cap
  have hl := Lib.hid (h.len.trans h'.len.symm)
  have hmk := make8 n hm
  go_enter Tryd.func56, Tryd.ntmps56
  go_wp2
  clear hmk
  go_loopw [18] (fun i wr => ∃ k : Nat, k ≤ n ∧ i = .int .i64 k ∧ Fill w wr n k (fun j => bt xs j ^^^ bt ys j)) (fun i _ => n - (intOf i).toNat)
  case atStart => exact ⟨0, Nat.zero_le _, rfl, Fill.start _ _ _⟩
  case round =>
    obtain ⟨k, hk, rfl, hf⟩ := hrel
    by_cases hlt : k < n
    · obtain ⟨b, off, rfl, hb, hc⟩ := h.pos (by omega)
      obtain ⟨b', off', rfl, hb', hc'⟩ := h'.pos (by omega)
      have g1 := (hf.1.cell (p := ⟨b, off + k, none⟩) hb).trans (hc k hlt)
      have g2 := (hf.1.cell (p := ⟨b', off' + k, none⟩) hb').trans (hc' k hlt)
      have g3 := hf.cell hlt
      have g4 := hf.frozen k
      have hu := Lib.hid (u8_xorL xs ys k)
      clear hc hc'
      go_wp2
      go_region
      go_wp2
      go_roundw
      case rel => exact ⟨k + 1, by omega, by go_num, (hf.step hu.out).drew⟩
      case measure => simp [intOf]; omega
    · obtain rfl : k = n := by omega
      go_wp2
      go_ret2
      exact ⟨_, _, _, rfl, hf.done ((xorL_len hl.out).trans h.len) hm (fun j hj => (bt_xorL hl.out (by rw [h.len]; exact hj)).symm), hf.1⟩
end Go.Proofs.YthdjojindijmnaaDoor
