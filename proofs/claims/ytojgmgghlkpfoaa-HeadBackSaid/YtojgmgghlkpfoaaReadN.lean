/-
  Reading a head: number and end.
-/
import Derived.Test.YtojgmgghlkpfoaaReadT
import Derived.Test.YtojgmgghlkpfoaaOfHighB
namespace Go.Proofs.Ytojgmgghlkpfoaa
open Go.ChangeShapes Go.WideShapes Go.ChangeAt Go.RowKit Go.Deep
set_option maxRecDepth 100000

def numN (xs : List UInt8) (k : Nat) : Nat := ofLowL (xs.take k).reverse
set_option maxHeartbeats 2000000 in
theorem number_ok {w : World} {g n c k : Nat} {A : Option Addr} {xs : List UInt8} (h : Cb w g 73 [.slice A n c]) (hb : Bs w A n c xs) (hk : k ≤ n) (hm : k ≤ 4) (hv : numN xs k < 4294967296) :
    Calls Try.prog 43 #[.pointer (some ⟨g, 0, none⟩), .int .i64 (k : Int)] w fun e w' => e = .returned (.int .i64 (numN xs k : Int)) ∧ ∃ A', Cb w' g 73 [.slice A' (n - k) (c - k)] ∧ Bs w' A' (n - k) (c - k) (xs.drop k) ∧ w.grownBy w' (some g) ∧ (∀ s, Bs s A n c xs → Bs s A' (n - k) (c - k) (xs.drop k)) := by
  have TK := Lib.hid (take_ok h hb hk (by omega))
  have OH : Hid (∀ (W : World), Bs W A k c (xs.take k) → Calls Try.prog 52 #[.slice A k c] W fun e w' => e = .returned (.int .u64 (numN xs k : Int)) ∧ Ext W w') := fun W q => by
    have := ofHigh_calls (m := k) q (by omega) (Nat.le_refl _) (if_neg (by omega))
    rw [List.take_of_length_le (by rw [List.length_take]; omega)] at this
    exact this
  generalize numN xs k = v at *
  have u1 : IntKind.i64.wrap (v : Int) = (v : Int) := IntWalk.i64_in _ (by omega)
  clear h hb
  go_enter Try.func43, Try.ntmps43
  go_wp2_with fail
  refine TK.out.mono ?_
  rintro e w1 ⟨rfl, A', k1, b1, b2, g1, cut_⟩
  have OK := Lib.hid (OH.out _ b1)
  replace k1 := Lib.hid k1
  replace b2 := Lib.hid b2
  replace g1 := Lib.hid g1
  replace cut_ := Lib.hid cut_
  clear TK OH b1
  go_wp2_with fail
  refine OK.out.mono ?_
  rintro e w2 ⟨rfl, e2⟩
  have f : Hid (Cb w2 g 73 [.slice A' (n - k) (c - k)] ∧ Bs w2 A' (n - k) (c - k) (xs.drop k) ∧ w.grownBy w2 (some g)) := ⟨k1.out.ext e2, b2.out.ext e2, grown_trans' g1.out ⟨e2.os, e2.tape, e2.output, e2.size, fun i hi _ => e2.block i hi⟩⟩
  clear OK k1 b2 g1 e2
  go_wp2_with fail
  go_ret
  exact ⟨rfl, A', f.out.1, f.out.2.1, f.out.2.2, cut_.out⟩
theorem end_ok {w : World} {g c : Nat} {A : Option Addr} (h : Cb w g 73 [.slice A 0 c]) : Calls Try.prog 37 #[.pointer (some ⟨g, 0, none⟩)] w fun e w' => e = .returned (.tuple #[]) ∧ Ext w w' := by
  have c0 := h.cell (j := 0) rfl
  have DM := Lib.hid (fun (W : World) => demand_ok (w := W))
  clear h
  go_enter Try.func37, Try.ntmps37
  go_wp2_with fail
  refine (DM.out _).mono ?_
  rintro e w1 ⟨rfl, e1⟩
  go_wp2_with fail
  go_end0
  exact ⟨rfl, e1⟩
theorem end_bad {w : World} {g n c : Nat} {A : Option Addr} (h : Cb w g 73 [.slice A n c]) (hn : 0 < n) : Calls Try.prog 37 #[.pointer (some ⟨g, 0, none⟩)] w fun e w' => e = .panicked [faultE 2] ∧ Ext w w' := by
  have c0 := h.cell (j := 0) rfl
  have DM := Lib.hid (fun (W : World) => demand_bad (w := W))
  have u1 : ((n : Int) == 0) = false := by simp; omega
  have u2 : ¬ n = 0 := by omega
  clear h
  go_enter Try.func37, Try.ntmps37
  go_wp2_with fail
  refine (DM.out _).mono ?_
  rintro e w1 ⟨rfl, e1⟩
  exact ⟨rfl, rfl, e1⟩
end Go.Proofs.Ytojgmgghlkpfoaa
