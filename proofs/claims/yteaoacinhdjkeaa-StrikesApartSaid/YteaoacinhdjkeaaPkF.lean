import Derived.Test.YteaoacinhdjkeaaJrO
import Derived.Test.YteaoacinhdjkeaaOwnS
section
/-
  A journal in memory whose records' bytes lie outside R.
-/
namespace Go.Proofs.Yteaoacinhdjkeaa
open Go.ChangeShapes Go.WideShapes Go.ChangeAt Go.RowKit Go.Deep Go.Maps
set_option maxRecDepth 100000

def JS (B : Nat) (R : Nat → Prop) (w : World) (g dg : Nat) (D : Option Addr) (c : Nat) (L : List (List UInt8)) : Prop := Cb w g 91 [.pointer (some ⟨dg, 0, none⟩), .slice D L.length c] ∧ OwnS B R w D L.length c L ∧ B ≤ g
theorem JS.ext {B : Nat} {R : Nat → Prop} {w w' : World} {g dg : Nat} {D : Option Addr} {c : Nat} {L : List (List UInt8)} (h : JS B R w g dg D c L) (x : Ext w w') : JS B R w' g dg D c L := ⟨h.1.ext x, h.2.1.ext x, h.2.2⟩
theorem JK.toS {B : Nat} {R : Nat → Prop} {w : World} {g dg : Nat} {D : Option Addr} {c : Nat} {L : List (List UInt8)} (h : JK B w g dg D c L) (hR : ∀ i, R i → i < B) : JS B R w g dg D c L := ⟨h.1, h.2.1.toS hR, h.2.2⟩
theorem JS.forbid {B : Nat} {R R' : Nat → Prop} {w : World} {g dg : Nat} {D : Option Addr} {c : Nat} {L : List (List UInt8)} (h : JS B R w g dg D c L) (hR : ∀ i, i < w.heap.size → R' i → R i) : JS B R' w g dg D c L := ⟨h.1, h.2.1.forbid hR, h.2.2⟩
theorem OwnS.turn {B : Nat} {R : Nat → Prop} {w w' : World} {D : Option Addr} {n c g : Nat} {l : List (List UInt8)} {t : TypeId} {cs : Array Value} (h : OwnS B R w D n c l) (hg : w.heap[g]? = some (.cells cs t (0, 0))) (h1 : t ≠ 37) (h2 : ∀ v ∈ cs, ∀ i : Int, v ≠ .int .u8 i) (k : w.grownBy w' (some g)) : OwnS B R w' D n c l :=
  h.ot (p := fun i => i = g) (Ot.of_grown k rfl) (fun i q => by subst q; exact h.ne_of hg h1) fun i q => .inr fun j x z => by
    subst q
    simp only [World.cell?, hg] at z
    exact h2 _ (Array.mem_of_getElem? (xs := cs) (i := j) (a := .int .u8 x) (by simpa using z)) _ rfl
/-- What 'append(nil, s...)' made lies in a new block. -/
theorem far_of_newS {w w1 : World} {B : Nat} {R : Nat → Prop} {A D : Option Addr} {n c k cc : Nat} {xs : List UInt8} {l : List (List UInt8)} (h : Own w.heap.size w1 A n c xs) (hD : OwnS B R w D k cc l) (hR : ∀ i, R i → i < w.heap.size) :
    0 < n → ∀ a, A = some a → some a.block ≠ Value.ownBlock (.slice D k cc) ∧ ¬ R a.block := by
  intro h0 a ha
  subst ha
  obtain ⟨d, hd⟩ : ∃ g : Nat, a.block = g ∧ w.heap.size ≤ g := by
    rcases h.2 with ⟨hv, _⟩ | ⟨g, cap, cur, hv, hb, _⟩
    · injection hv with q1
      cases q1
    · injection hv with q1
      injection q1 with q1
      exact ⟨g, by rw [q1], hb⟩
  refine ⟨fun q => ?_, fun q => ?_⟩
  · have := (hD.ge _ q.symm).2
    omega
  · have := hR _ q
    omega
/-- One row more. -/
theorem wp_append_s1 {w : World} {o : Oper} {a : Act} {K : Act → World → Prop} {Q : Exit → Act → World → Prop} {B : Nat} {R : Nat → Prop} {D A' : Option Addr} {n c n' c' b : Nat} {l : List (List UInt8)} {xs : List UInt8} {s x : Operand}
    (ho : o.op = .call { callee := .builtin .append, args := #[s, x], argTypes := #[50, 50] }) (hs : a.eval s = .slice D n c) (hx : a.eval x = .slice (some ⟨b, 0, none⟩) 1 1)
    (h : OwnS B R w D n c l) (hc : w.cell? ⟨b, 0, none⟩ = some (.slice A' n' c')) (hr : Bs w A' n' c' xs) (hne : 0 < n' → ∀ a, A' = some a → some a.block ≠ Value.ownBlock (.slice D n c) ∧ ¬ R a.block) (hm : n ≤ 900000) (hB : B ≤ w.heap.size)
    (hK : ∀ D'' c'' w', OwnS B R w' D'' (n + 1) c'' (l ++ [xs]) → w.grownBy w' (Value.ownBlock (.slice D n c)) → (Value.ownBlock (.slice D'' (n + 1) c'') = Value.ownBlock (.slice D n c) ∨ Value.ownBlock (.slice D'' (n + 1) c'') = some w.heap.size) → K (a.put o.dst (.slice D'' (n + 1) c'')) w') : o.wp Try.prog a w K Q :=
  wp_append_gs ho hs hx h (news := [.slice A' n' c']) (ys := [xs]) rfl rfl (fun _ => ⟨_, rfl, fun j u hu => by
    have : j = 0 := by
      rcases Nat.eq_zero_or_pos j with h | h
      · exact h
      · rw [List.getElem?_eq_none (show [Value.slice A' n' c'].length ≤ j from h)] at hu; cases hu
    subst this
    simp at hu
    subst hu
    simpa [Addr.add] using hc⟩) (fun j hj => by
    obtain rfl : j = 0 := by omega
    exact ⟨A', n', c', rfl, hr, hne⟩) (by omega) hB hK
end Go.Proofs.Yteaoacinhdjkeaa
end

section
/-
  The journal: Len, All.
-/
namespace Go.Proofs.Yteaoacinhdjkeaa
open Go.ChangeShapes Go.WideShapes Go.ChangeAt Go.RowKit Go.Deep Go.Maps Go.Shelf
set_option maxRecDepth 100000
attribute [local go_sem] Oper.semAt_some

theorem jlen_calls {w : World} {B g dg : Nat} {R : Nat → Prop} {D : Option Addr} {c : Nat} {L : List (List UInt8)} (hj : JS B R w g dg D c L) : Calls Try.prog 26 #[.pointer (some ⟨g, 0, none⟩)] w fun e w' => e = .returned (.int .i64 (L.length : Int)) ∧ w' = w := by
  have c1 := hj.1.cell (j := 1) rfl
  go_enter Try.func26, Try.ntmps26
  go_wp2_with fail
  go_ret
  exact ⟨rfl, rfl⟩
theorem jall_calls {w : World} {v : Option Addr} : Calls Try.prog 54 #[.pointer v] w fun e w' => e = .returned (.func (.func 68) #[] #[.pointer (some ⟨w.heap.size, 0, none⟩)]) ∧ Cb w' w.heap.size 31 [.pointer v] ∧ Ext w w' := by
  go_enter Try.func54, Try.ntmps54
  go_wp2_with fail
  go_ret
  exact ⟨rfl, Cb.new _ _ [_], (Ext.refl w).alloc _⟩

set_option maxHeartbeats 4000000 in
theorem jall1_in {n l bd B g dg : Nat} {R : Nat → Prop} {D : Option Addr} {c : Nat} {L : List (List UInt8)} {J : Nat → World → Prop} {Jx : World → Prop} {W : World} (hL : L.length ≤ 1000) (hlen : ∀ k, k < L.length → (L.getD k []).length ≤ 1000000)
    (hJ : ∀ k w w', J k w → Ext w w' → J k w') (hD : ∀ k w, J k w → JS B R w g dg D c L ∧ Cb w bd 31 [.pointer (some ⟨g, 0, none⟩)])
    (hY : ∀ k v w A m c', J k v → k < L.length → Ext v w → Own v.heap.size w A m c' (L.getD k []) → YieldAt Fence.wide (n - 1) Try.prog l #[.int .i64 (k : Int), .slice A m c'] w fun e w' => (e = .returned (.bool true) ∧ J (k + 1) w') ∨ (e = .returned (.bool false) ∧ Jx w'))
    (h0 : J 0 W) : CallsIn Fence.wide n Try.prog 68 #[.func (.yield l) #[] #[], .pointer (some ⟨bd, 0, none⟩)] W fun e w' => (∃ v, e = .returned v) ∧ (J L.length w' ∨ Jx w') := by
  refine callsIn_of_wp Try.func68 rfl trivial ?_ rfl
  simp only [Try.ntmps68, List.size_toArray, List.length_cons, List.length_nil, Nat.reduceAdd, Nat.reduceSub, Array.replicate_succ, Array.replicate_zero, List.push_toArray, List.append_toArray, List.nil_append, List.cons_append]
  obtain ⟨jk0, bx⟩ := hD _ _ h0
  have c0 := bx.cell (j := 0) rfl
  have c1 := jk0.1.cell (j := 1) rfl
  replace hJ := Lib.hid hJ
  replace hD := Lib.hid hD
  replace hY := Lib.hid hY
  replace h0 := Lib.hid h0
  replace hlen := Lib.hid hlen
  clear jk0 bx
  gi_wp2
  clear c0 c1
  gi_loopw [10] (fun i wr => ∃ k : Nat, i = .int .i64 (k : Int) ∧ k ≤ L.length ∧ J k wr) (fun i _ => L.length - (intOf i).toNat)
  case atStart => exact ⟨0, rfl, Nat.zero_le _, h0.out⟩
  case round =>
    obtain ⟨k, rfl, hk, hj⟩ := hrel
    by_cases hlt : k < L.length
    · obtain ⟨jk, bx⟩ := hD.out _ _ hj
      obtain ⟨b, off, rfl, hb, hcell⟩ := jk.2.1.rw.pos (by omega)
      obtain ⟨A1, n1, c1, hc1, hb1⟩ := hcell k hlt
      have hln := hlen.out k hlt
      have hbl := hb1.len
      have CP := Lib.hid (jcopied_calls hb1 (by omega))
      replace hj := Lib.hid hj
      clear jk bx hcell
      gi_wp2
      refine ⟨trivial, fun q => (by cases q), (callsIn_wide.2 CP.out).mono ?_⟩
      rintro e w4 ⟨A, m, c', rfl, ow, x4⟩
      have YY := hY.out k wr w4 A m c' hj.out hlt x4 ow
      obtain ⟨fn, tmps, assign, body, hy, hR⟩ := YY
      replace hR := Lib.hid hR
      clear CP ow x4 hc1 hb1
      gi_wp2
      refine ⟨fun q => (by cases q), hR.out.mono ?_⟩
      rintro e w5 (⟨rfl, hj5⟩ | ⟨rfl, hx5⟩)
      · gi_wp2
        go_roundw
        case rel => exact ⟨k + 1, by go_num, by omega, hj5⟩
        case measure => simp [intOf]; omega
      · gi_wp2
        refine bodyPost_ret (results_none rfl _ _ _) rfl ?_
        exact ⟨⟨_, rfl⟩, .inr hx5⟩
    · obtain rfl : k = L.length := by omega
      replace hj := Lib.hid hj
      gi_wp2
      go_end0
      exact ⟨⟨_, rfl⟩, .inl hj.out⟩
end Go.Proofs.Yteaoacinhdjkeaa
end
