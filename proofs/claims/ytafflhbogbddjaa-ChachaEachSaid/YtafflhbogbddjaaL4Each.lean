/-
  ChachaEach: each byte is turned by its own place alone.
-/
import Derived.Test.YtafflhbogbddjaaJob
namespace Go.Proofs.Ytafflhbogbddjaa
open Go.ChangeShapes Go.WideShapes Go.ChangeAt Go.RowKit Go.Deep

theorem each_out {A A' : Option Addr} {m c m' c' : Nat} {xs ys : List UInt8} {J : Array Value} {w : World} (h : Bs w A m c xs) (h' : Bs w A' m' c' ys) (hq : 300 < m ∨ 300 < m') :
    Calls Try.prog 7 #[.agg J, .slice A m c, .slice A' m' c'] w fun e w' => e = .returned (.bool true) ∧ Ext w w' := by
  have h1 := h.le
  have h2 := h.cap
  have h3 := h'.le
  have h4 := h'.cap
  by_cases q1 : 300 < m
  · have q1' : decide ((300 : Int) < (m : Int)) = true := by simp; omega
    clear hq
    go_enter Try.func7, Try.ntmps7
    go_wp2_with fail
    refine awake_calls.mono ?_
    rintro e w1 ⟨rfl, e1⟩
    go_wp2_with fail
    go_ret
    exact ⟨rfl, ((Ext.refl w).alloc _).trans e1⟩
  · have q1' : decide ((300 : Int) < (m : Int)) = false := by simp; omega
    have q2' : decide ((300 : Int) < (m' : Int)) = true := by simp; omega
    clear hq
    go_enter Try.func7, Try.ntmps7
    go_wp2_with fail
    refine awake_calls.mono ?_
    rintro e w1 ⟨rfl, e1⟩
    go_wp2_with fail
    go_ret
    exact ⟨rfl, ((Ext.refl w).alloc _).trans e1⟩

theorem each_byte {ks ns xs : List UInt8} {n j : Nat} (h : j < xs.length) : bits .xor .u8 (bt (turnL ks ns n xs) j : Int) (bt xs j : Int) = (keyB ks ns n j : Int) := by
  rw [u8_xorL, bt_turnL h, Nat.xor_comm (bt xs j), Nat.xor_assoc, Nat.xor_self, Nat.xor_zero]

set_option maxRecDepth 100000 in
set_option maxHeartbeats 2000000 in
theorem each_main {A A' : Option Addr} {m c m' c' n : Nat} {ks ns xs ys : List UInt8} {w : World} (hk : ks.length = 32) (hn : ns.length = 12) (hN : n < 4294967296) (h : Bs w A m c xs) (h' : Bs w A' m' c' ys) (hq : m ≤ 300) (hq' : m' ≤ 300) :
    Calls Try.prog 7 #[.agg (jobL ks ns n).toArray, .slice A m c, .slice A' m' c'] w fun e w' => e = .returned (.bool true) ∧ Ext w w' := by
  have h1 := h.le
  have h2 := h.cap
  have hl := h.len
  have h3 := h'.le
  have h4 := h'.cap
  have hl' := h'.len
  have q1' : decide ((300 : Int) < (m : Int)) = false := by simp; omega
  have q2' : decide ((300 : Int) < (m' : Int)) = false := by simp; omega
  have JB0 := Lib.hid (Jb.boxed w hk hn hN)
  have KL : (cellsOf ks).length = 32 := by rw [cellsOf_len, hk]
  have NL : (cellsOf ns).length = 12 := by rw [cellsOf_len, hn]
  have TURN : Hid (∀ (W : World) A' L' c' ys, Bs W A' L' c' ys → L' ≤ 1000 → Calls Try.prog 11 #[.agg (cellsOf ks).toArray, .agg (cellsOf ns).toArray, .int .u32 (n : Int), .slice A' L' c'] W (RetBs (turnL ks ns n ys) W)) := fun W A' L' c' ys b hle => turn_calls hk hn hN b (by omega)
  generalize (jobL ks ns n).toArray = J at *
  obtain ⟨q, hq0⟩ : ∃ q, q = min m m' := ⟨_, rfl⟩
  have hM : (if (m' : Int) < (m : Int) then (m' : Int) else (m : Int)) = (q : Int) := by split <;> omega
  have hM' : (if (m : Int) < (m' : Int) then (m : Int) else (m' : Int)) = (q : Int) := by split <;> omega
  have hM2 : (if m' < m then (m' : Int) else (m : Int)) = (q : Int) := by split <;> omega
  have hM3 : (if m < m' then (m : Int) else (m' : Int)) = (q : Int) := by split <;> omega
  have qm : q ≤ m := by omega
  have qm' : q ≤ m' := by omega
  replace hq0 := Lib.hid hq0
  have hB := Lib.hid h
  have hB' := Lib.hid h'
  have TL := turnL_len ks ns n xs
  have TL' := turnL_len ks ns n ys
  clear h h'
  go_enter Try.func7, Try.ntmps7
  go_wp2_with fail
  refine awake_calls.mono ?_
  rintro e w1 ⟨rfl, e1⟩
  have E1 : Hid (Ext w w1) := ((Ext.refl w).alloc _).trans e1
  have JB1 := Lib.hid (JB0.out.ext e1)
  clear JB0 e1
  have jn := JB1.out.num
  go_wp2_with (first
    | (refine wpList_exec rfl (exec_load_mid (ys := cellsOf ks) (g := w.heap.size) (off := 0) rfl rfl JB1.out.key rfl rfl (by rw [KL]; rfl)) ?_; simp only [Act.put, List.setIfInBounds_toArray, List.set_cons_zero, List.set_cons_succ])
    | (refine wpList_exec rfl (exec_load_mid (ys := cellsOf ns) (g := w.heap.size) (off := 32) rfl rfl JB1.out.non rfl rfl (by rw [NL]; rfl)) ?_; simp only [Act.put, List.setIfInBounds_toArray, List.set_cons_zero, List.set_cons_succ]))
  refine (TURN.out _ _ _ _ _ (hB.out.ext E1.out) (by omega)).mono ?_
  rintro e w2 ⟨A2, n2, c2, rfl, b2, e2⟩
  have n2m : n2 = m := by rw [← b2.len, TL, hl]
  subst n2m
  have JB2 := Lib.hid (JB1.out.ext e2)
  have jn2 := JB2.out.num
  clear JB1 jn
  go_wp2_with (first
    | (refine wpList_exec rfl (exec_load_mid (ys := cellsOf ks) (g := w.heap.size) (off := 0) rfl rfl JB2.out.key rfl rfl (by rw [KL]; rfl)) ?_; simp only [Act.put, List.setIfInBounds_toArray, List.set_cons_zero, List.set_cons_succ])
    | (refine wpList_exec rfl (exec_load_mid (ys := cellsOf ns) (g := w.heap.size) (off := 32) rfl rfl JB2.out.non rfl rfl (by rw [NL]; rfl)) ?_; simp only [Act.put, List.setIfInBounds_toArray, List.set_cons_zero, List.set_cons_succ]))
  refine (TURN.out _ _ _ _ _ (hB'.out.ext (E1.out.trans e2)) (by omega)).mono ?_
  rintro e w3 ⟨A3, n3, c3, rfl, b3, e3⟩
  have n3m : n3 = m' := by rw [← b3.len, TL', hl']
  subst n3m
  have E3 : Hid (Ext w w3) := E1.out.trans (e2.trans e3)
  have X3 := Lib.hid (hB.out.ext E3.out)
  have Y3 := Lib.hid (hB'.out.ext E3.out)
  have P3 := Lib.hid (b2.ext e3)
  have Q3 := Lib.hid b3
  have cp := P3.out.cap
  have cpl := P3.out.le
  have cq := Q3.out.cap
  have cql := Q3.out.le
  clear b2 b3 e2 e3 E1 JB2 jn2 hB hB'
  go_wp2_with fail
  clear hM hM' hM2 hM3
  go_loopw [11] (fun i wr => ∃ k : Nat, k ≤ q ∧ i = .int .i64 k ∧ Ext w3 wr) (fun i _ => q - (intOf i).toNat)
  case atStart => exact ⟨0, Nat.zero_le _, rfl, Ext.refl _⟩
  case round =>
    obtain ⟨k, hkq, rfl, eK⟩ := hrel
    by_cases hlt : k < q
    · obtain ⟨b1, o1, rfl, _, z1⟩ := (X3.out.ext eK).pos (by omega)
      obtain ⟨b2, o2, rfl, _, z2⟩ := (Y3.out.ext eK).pos (by omega)
      obtain ⟨b3, o3, rfl, _, z3⟩ := (P3.out.ext eK).pos (by omega)
      obtain ⟨b4, o4, rfl, _, z4⟩ := (Q3.out.ext eK).pos (by omega)
      have g1 := z1 k (by omega)
      have g2 := z2 k (by omega)
      have g3 := z3 k (by omega)
      have g4 := z4 k (by omega)
      clear z1 z2 z3 z4
      have i1 : (k : Int) < (n2 : Int) := by omega
      have i2 : (k : Int) < (n3 : Int) := by omega
      have u1 := each_byte (ks := ks) (ns := ns) (n := n) (xs := xs) (j := k) (by omega)
      have u2 := each_byte (ks := ks) (ns := ns) (n := n) (xs := ys) (j := k) (by omega)
      replace eK := Lib.hid eK
      go_wp2_with fail
      go_quiet (fail)
      go_wp2_with fail
      exact ⟨⟨k + 1, by omega, by go_num, eK.out.drewN _⟩, by simp [intOf]; omega⟩
    · obtain rfl : k = q := by omega
      go_wp2_with fail
      go_ret
      exact ⟨rfl, E3.out.trans eK⟩

theorem chachaEach_calls {A A' : Option Addr} {m c m' c' n : Nat} {ks ns xs ys : List UInt8} {w : World} (hk : ks.length = 32) (hn : ns.length = 12) (hN : n < 4294967296) (h : Bs w A m c xs) (h' : Bs w A' m' c' ys) :
    Calls Try.prog 7 #[.agg (jobL ks ns n).toArray, .slice A m c, .slice A' m' c'] w fun e w' => e = .returned (.bool true) ∧ Ext w w' := by
  by_cases hq : 300 < m ∨ 300 < m'
  · exact each_out h h' hq
  · exact each_main hk hn hN h h' (by omega) (by omega)
end Go.Proofs.Ytafflhbogbddjaa
