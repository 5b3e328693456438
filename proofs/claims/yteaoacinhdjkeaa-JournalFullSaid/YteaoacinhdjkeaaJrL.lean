/-
  The journal: Len, All.
-/
import Derived.Test.YteaoacinhdjkeaaJrO
namespace Go.Proofs.Yteaoacinhdjkeaa
open Go.ChangeShapes Go.WideShapes Go.ChangeAt Go.RowKit Go.Deep Go.Maps Go.Shelf
set_option maxRecDepth 100000
attribute [local go_sem] Oper.semAt_some

theorem jlen_calls {w : World} {B g dg : Nat} {D : Option Addr} {c : Nat} {L : List (List UInt8)} (hj : JK B w g dg D c L) : Calls Try.prog 26 #[.pointer (some ⟨g, 0, none⟩)] w fun e w' => e = .returned (.int .i64 (L.length : Int)) ∧ w' = w := by
  have c1 := hj.1.cell (j := 1) rfl
  go_enter Try.func26, Try.ntmps26
  go_wp2_with fail
  go_ret
  exact ⟨rfl, rfl⟩
theorem jall_calls {w : World} {v : Option Addr} : Calls Try.prog 54 #[.pointer v] w fun e w' => e = .returned (.func (.func 68) #[] #[.pointer (some ⟨w.heap.size, 0, none⟩)]) ∧ Cb w' w.heap.size 31 [.pointer v] ∧ Ext w w' := by
  go_enter Try.func54, Try.ntmps54
  go_wp2_with fail
  go_ret
  exact ⟨rfl, Cb.new _ _ [_], (Ext.refl w).alloc _⟩

set_option maxHeartbeats 4000000 in
theorem jall1_in {n l bd B g dg : Nat} {D : Option Addr} {c : Nat} {L : List (List UInt8)} {J : Nat → World → Prop} {Jx : World → Prop} {W : World} (hL : L.length ≤ 1000) (hlen : ∀ k, k < L.length → (L.getD k []).length ≤ 1000000)
    (hJ : ∀ k w w', J k w → Ext w w' → J k w') (hD : ∀ k w, J k w → JK B w g dg D c L ∧ Cb w bd 31 [.pointer (some ⟨g, 0, none⟩)])
    (hY : ∀ k v w A m c', J k v → k < L.length → Ext v w → Own v.heap.size w A m c' (L.getD k []) → YieldAt Fence.wide (n - 1) Try.prog l #[.int .i64 (k : Int), .slice A m c'] w fun e w' => (e = .returned (.bool true) ∧ J (k + 1) w') ∨ (e = .returned (.bool false) ∧ Jx w'))
    (h0 : J 0 W) : CallsIn Fence.wide n Try.prog 68 #[.func (.yield l) #[] #[], .pointer (some ⟨bd, 0, none⟩)] W fun e w' => (∃ v, e = .returned v) ∧ (J L.length w' ∨ Jx w') := by
  refine callsIn_of_wp Try.func68 rfl trivial ?_ rfl
  simp only [Try.ntmps68, List.size_toArray, List.length_cons, List.length_nil, Nat.reduceAdd, Nat.reduceSub, Array.replicate_succ, Array.replicate_zero, List.push_toArray, List.append_toArray, List.nil_append, List.cons_append]
  obtain ⟨jk0, bx⟩ := hD _ _ h0
  have c0 := bx.cell (j := 0) rfl
  have c1 := jk0.1.cell (j := 1) rfl
  replace hJ := Lib.hid hJ
  replace hD := Lib.hid hD
  replace hY := Lib.hid hY
  replace h0 := Lib.hid h0
  replace hlen := Lib.hid hlen
  clear jk0 bx
  gi_wp2
  clear c0 c1
  gi_loopw [10] (fun i wr => ∃ k : Nat, i = .int .i64 (k : Int) ∧ k ≤ L.length ∧ J k wr) (fun i _ => L.length - (intOf i).toNat)
  case atStart => exact ⟨0, rfl, Nat.zero_le _, h0.out⟩
  case round =>
    obtain ⟨k, rfl, hk, hj⟩ := hrel
    by_cases hlt : k < L.length
    · obtain ⟨jk, bx⟩ := hD.out _ _ hj
      obtain ⟨b, off, rfl, hb, hcell⟩ := jk.2.1.rw.pos (by omega)
      obtain ⟨A1, n1, c1, hc1, hb1⟩ := hcell k hlt
      have hln := hlen.out k hlt
      have hbl := hb1.len
      have CP := Lib.hid (jcopied_calls hb1 (by omega))
      replace hj := Lib.hid hj
      clear jk bx hcell
      gi_wp2
      refine ⟨trivial, fun q => (by cases q), (callsIn_wide.2 CP.out).mono ?_⟩
      rintro e w4 ⟨A, m, c', rfl, ow, x4⟩
      have YY := hY.out k wr w4 A m c' hj.out hlt x4 ow
      obtain ⟨fn, tmps, assign, body, hy, hR⟩ := YY
      replace hR := Lib.hid hR
      clear CP ow x4 hc1 hb1
      gi_wp2
      refine ⟨fun q => (by cases q), hR.out.mono ?_⟩
      rintro e w5 (⟨rfl, hj5⟩ | ⟨rfl, hx5⟩)
      · gi_wp2
        go_roundw
        case rel => exact ⟨k + 1, by go_num, by omega, hj5⟩
        case measure => simp [intOf]; omega
      · gi_wp2
        refine bodyPost_ret (results_none rfl _ _ _) rfl ?_
        exact ⟨⟨_, rfl⟩, .inr hx5⟩
    · obtain rfl : k = L.length := by omega
      replace hj := Lib.hid hj
      gi_wp2
      go_end0
      exact ⟨⟨_, rfl⟩, .inl hj.out⟩
end Go.Proofs.Yteaoacinhdjkeaa
