/-
  octets.OfHigh: the number of bytes, the highest first (where the program holds neither Xor nor the law of layer 1).
-/
import Derived.Test.YteaoacinhdjkeaaHighB
namespace Go.Proofs.Yteaoacinhdjkeaa
open Go.ChangeShapes Go.WideShapes Go.ChangeAt Go.RowKit Go.Deep

set_option maxHeartbeats 400000 in
theorem ofHigh_calls {A : Option Addr} {n c : Nat} {m : Nat} {xs : List UInt8} {w : World} (h : Bs w A n c xs) (hm8 : m ≤ 8) (hmn : m ≤ n) (hM : (if (8 : Int) < (n : Int) then 8 else (n : Int)) = (m : Int)) :
    Calls Try.prog 73 #[.slice A n c] w fun e w' => e = .returned (.int .u64 (ofLowL (xs.take m).reverse : Int)) ∧ Ext w w' := by
  have h1 := h.le
  have h2 := h.cap
  go_enter Try.func73, Try.ntmps73
  go_wp2_with fail
  refine (reversed_calls (h.take hmn) (by omega)).mono ?_
  rintro e w1 ⟨A1, k, c1, rfl, hb, he⟩
  have hk : k = m := by have := hb.len; rw [List.length_reverse, List.length_take, h.len] at this; omega
  have hk' := Lib.hid hk
  clear hk hM
  go_wp2_with fail
  refine (ofLow_calls (m := m) hb hm8 (by rw [hk'.out]; omega) (by rw [hk'.out, if_neg (by omega)])).mono ?_
  rintro e w2 ⟨rfl, rfl⟩
  go_wp2_with fail
  go_ret
  refine ⟨ret_int ?_, he⟩
  rw [List.take_of_length_le (by rw [hb.len, hk'.out]; omega)]

end Go.Proofs.Yteaoacinhdjkeaa
