/-
  disk.Write.
-/
import Derived.Test.YteaoacinhdjkeaaDk2
import Derived.Test.YteaoacinhdjkeaaTwo
namespace Go.Proofs.Yteaoacinhdjkeaa
open Go.ChangeShapes Go.WideShapes Go.ChangeAt Go.RowKit Go.Deep Go.Maps
set_option maxRecDepth 100000

theorem cell_of_heap21 {w w' : World} {g : Nat} (h : w'.heap[g]? = w.heap[g]?) (o : Nat) : w'.cell? ⟨g, o, none⟩ = w.cell? ⟨g, o, none⟩ := World.cell?_of_block h
theorem burn_S (d : Ds) : d.burn.S = d.S := by
  unfold Ds.burn
  split
  · rfl
  · split <;> rfl
theorem burn_N (d : Ds) : d.burn.N = d.N := by
  unfold Ds.burn
  split
  · rfl
  · split <;> rfl
theorem burn_ent (d : Ds) : d.burn.ent = d.ent := by unfold Ds.ent; rw [burn_S, burn_N]
def Ds.put (d : Ds) (i : Nat) (xs : List UInt8) : Ds := { d with N := fun j => if j = i then some xs else d.N j }
def Ds.write (d : Ds) (i : Int) (xs : List UInt8) : Ds := if 0 ≤ i ∧ i < (d.S.length : Int) then (if d.fails then d.burn else d.burn.put i.toNat xs) else d
def Ds.writeE (d : Ds) (i : Int) : Int := if 0 ≤ i ∧ i < (d.S.length : Int) then (if d.fails then 13 else 0) else 1
theorem put_ok {d : Ds} (h : d.ok) {i : Nat} (hi : i < d.S.length) {xs : List UInt8} (hx : xs.length = 64) : (d.put i xs).ok := ⟨h.low, h.most, h.sl, fun j s q => by
  have q : (if j = i then some xs else d.N j) = some s := q
  split at q
  · rename_i e
    exact ⟨by rw [← Option.some.inj q]; exact hx, by rw [e]; exact hi⟩
  · exact h.nl j s q, h.fl⟩
theorem put_entmem {d : Ds} {i : Nat} (hi : i < d.S.length) {xs : List UInt8} (p : Value × Value) : p ∈ (d.put i xs).ent ↔ p = (.int .i64 (i : Int), .agg (cellsOf xs).toArray) ∨ (p.1 ≠ .int .i64 (i : Int) ∧ p ∈ d.ent) := by
  have := entN_set (f := fun j => (d.N j).map fun s => Value.agg (cellsOf s).toArray) (v := .agg (cellsOf xs).toArray) hi p
  unfold Ds.ent
  rw [← this]
  have e : (fun j => ((d.put i xs).N j).map fun s => Value.agg (cellsOf s).toArray) = fun j => if j = i then some (.agg (cellsOf xs).toArray) else (d.N j).map fun s => Value.agg (cellsOf s).toArray := by
    funext j
    show ((if j = i then some xs else d.N j)).map _ = _
    split <;> rfl
  rw [e]
  exact Iff.rfl
theorem DK.write {w : World} {g r b : Nat} {d : Ds} (h : DK w g r b d) {i : Nat} (hi : i < d.S.length) {xs : List UInt8} (hx : xs.length = 64) :
    ∃ w', (Instr.mapUpdate 84 (.map (some b)) (.int .i64 (i : Int)) (.agg (cellsOf xs).toArray)).run Try.prog w = .ok () w' ∧ DK w' g r b (d.put i xs) ∧ w.grownBy w' (some b) := by
  have hm := h.ok.most
  obtain ⟨w1, r1, r2, r3⟩ := h.mp.store int_law Try.underlying84 (E' := (d.put i xs).ent) (key := .int .i64 (i : Int)) (v := .agg (cellsOf xs).toArray) (by have := entN_len d.S.length fun i => (d.N i).map fun s => Value.agg (cellsOf s).toArray; unfold Ds.ent maxLen; omega) (int_key Try.underlying3 (by omega)) (entN_apart _ _) (put_entmem hi)
  exact ⟨w1, r1, ⟨(r3.block _ h.cb.lt (fun q => h.gb (Option.some.inj q))).trans h.cb, (r3.block _ h.row.lt (fun q => h.rb (Option.some.inj q))).trans h.row, r2, put_ok h.ok hi hx⟩, r3⟩
set_option maxHeartbeats 4000000 in
theorem dwrite_calls {w : World} {g r mb : Nat} {d : Ds} (h : DK w g r mb d) {i : Int} {xs : List UInt8} (hx : xs.length = 64) :
    Calls Try.prog 22 #[.pointer (some ⟨g, 0, none⟩), .int .i64 i, .agg (cellsOf xs).toArray] w fun e w' => e = .returned (.int .i64 (d.writeE i)) ∧ DK w' g r mb (d.write i xs) ∧ Two g mb w w' := by
  have HS : Hid (∀ s, Ext w s → Calls Try.prog 51 #[.pointer (some ⟨g, 0, none⟩), .int .i64 i] s fun e w' => e = .returned (.bool (decide (0 ≤ i ∧ i < (d.S.length : Int)))) ∧ Ext s w') := fun s e => dhas_calls (h.ext e)
  have BU : Hid (∀ s, Ext w s → Calls Try.prog 52 #[.pointer (some ⟨g, 0, none⟩)] s fun e w' => e = .returned (.int .i64 (if d.fails then 13 else 0)) ∧ DK w' g r mb d.burn ∧ s.grownBy w' (some g)) := fun s e => dburn_calls (h.ext e)
  have SE : Hid (∀ s, Ext w s → DK s g r mb d ∧ Two g mb w s) := fun s e => ⟨h.ext e, Two.of_ext e⟩
  have gnb := h.gb
  have glt := h.cb.lt
  have blt := h.mp.lt
  have S_x : (cellsOf xs).toArray.size = 64 := by simp [cellsOf_len, hx]
  have WR : Hid (∀ s, DK s g r mb d.burn → (0 ≤ i ∧ i < (d.S.length : Int)) → ∃ w', (Instr.mapUpdate 84 (.map (some mb)) (.int .i64 i) (.agg (cellsOf xs).toArray)).run Try.prog s = .ok () w' ∧ DK w' g r mb (d.burn.put i.toNat xs) ∧ s.grownBy w' (some mb)) := fun s q hi => by
    obtain ⟨n, rfl⟩ : ∃ n : Nat, i = (n : Int) := ⟨i.toNat, by omega⟩
    rw [Int.toNat_natCast]
    exact q.write (by rw [burn_S]; omega) hx
  have W0 : Hid (¬ (0 ≤ i ∧ i < (d.S.length : Int)) → d.write i xs = d ∧ d.writeE i = 1) := fun q => ⟨if_neg q, if_neg q⟩
  have W1 : Hid ((0 ≤ i ∧ i < (d.S.length : Int)) → d.fails = true → d.write i xs = d.burn ∧ d.writeE i = 13) := fun q q2 => by
    unfold Ds.write Ds.writeE; rw [if_pos q, if_pos q, if_pos q2, if_pos q2]; exact ⟨rfl, rfl⟩
  have W2 : Hid ((0 ≤ i ∧ i < (d.S.length : Int)) → d.fails = false → d.write i xs = d.burn.put i.toNat xs ∧ d.writeE i = 0) := fun q q2 => by
    unfold Ds.write Ds.writeE; rw [if_pos q, if_pos q, q2]; exact ⟨rfl, rfl⟩
  clear h hx
  obtain ⟨fa, hfa⟩ : ∃ q, q = d.fails := ⟨_, rfl⟩
  rw [← hfa] at BU W1 W2
  clear hfa
  have TB : Hid (∀ s t, Ext w s → s.grownBy t (some g) → Two g mb w t) := fun s t e k => (Two.of_ext e).trans ⟨k.os, k.tape, k.output, k.size, fun j hj h1 _ => k.block j hj (fun q => h1 (Option.some.inj q))⟩
  obtain ⟨hi, hhi⟩ : ∃ q, q = decide (0 ≤ i ∧ i < (d.S.length : Int)) := ⟨_, rfl⟩
  rw [← hhi] at HS
  replace hhi := Lib.hid hhi
  have HI : Hid ((hi = true → 0 ≤ i ∧ i < (d.S.length : Int)) ∧ (hi = false → ¬ (0 ≤ i ∧ i < (d.S.length : Int)))) := ⟨fun q => of_decide_eq_true (hhi.out.symm.trans q), fun q => of_decide_eq_false (hhi.out.symm.trans q)⟩
  clear hhi
  obtain ⟨r5, hr5⟩ : ∃ q, q = w.heap.size := ⟨_, rfl⟩
  have B0 : Hid (Cb (w.alloc (.cells (cellsOf xs).toArray 45)) r5 45 (cellsOf xs) ∧ Ext w (w.alloc (.cells (cellsOf xs).toArray 45))) := by rw [hr5]; exact ⟨Cb.new _ _ _, (Ext.refl w).alloc _⟩
  replace hr5 := Lib.hid hr5
  go_enter Try.func22, Try.ntmps22
  go_upto_region 1 with fail
  refine wp_gen (fun W => Cb W r5 45 (cellsOf xs) ∧ Ext w W) B0.out ?_
  rw [← hr5.out]
  have wr5 : w.heap.size ≤ r5 := Nat.le_of_eq hr5.out.symm
  have r5g : r5 ≠ g := by omega
  have r5b : r5 ≠ mb := by omega
  clear B0 hr5
  rintro w0 ⟨k5, x0⟩
  have HS0 := Lib.hid (HS.out _ x0)
  replace k5 := Lib.hid k5
  replace x0 := Lib.hid x0
  clear HS
  go_wp2_with fail
  refine HS0.out.mono ?_
  rintro e w1 ⟨rfl, x1⟩
  have k51 := Lib.hid (k5.out.ext x1)
  have X1 := Lib.hid (x0.out.trans x1)
  clear HS0 k5 x0 x1
  cases hi with
  | false =>
    obtain ⟨e1, e2⟩ := W0.out (HI.out.2 rfl)
    have F : Hid (DK w1 g r mb (d.write i xs) ∧ Two g mb w w1 ∧ d.writeE i = 1) := by
      have q := SE.out _ X1.out
      exact ⟨by rw [e1]; exact q.1, q.2, e2⟩
    clear W0 W1 W2 WR BU SE HI e1 e2 k51 X1
    go_wp2_with fail
    go_ret
    exact ⟨by rw [F.out.2.2]; rfl, F.out.1, F.out.2.1⟩
  | true =>
    have hin := HI.out.1 rfl
    have BU1 := Lib.hid (BU.out _ X1.out)
    have r5l := k51.out.lt
    clear BU SE HI W0
    go_wp2_with fail
    refine BU1.out.mono ?_
    rintro e w2 ⟨rfl, dk2, g2⟩
    have k52 : Cb w2 r5 45 (cellsOf xs) := (g2.block _ r5l (fun q => r5g (Option.some.inj q))).trans k51.out
    have T2 : Hid (Two g mb w w2) := TB.out _ _ X1.out g2
    clear BU1 X1 k51 TB g2
    cases fa with
    | true =>
      obtain ⟨e1, e2⟩ := W1.out hin rfl
      have F : Hid (DK w2 g r mb (d.write i xs) ∧ d.writeE i = 13) := by
        exact ⟨by rw [e1]; exact dk2, e2⟩
      clear W1 W2 WR e1 e2 k52 dk2
      go_wp2_with fail
      go_ret
      exact ⟨by rw [F.out.2]; rfl, F.out.1, T2.out⟩
    | false =>
      have F := Lib.hid (W2.out hin rfl)
      clear W1 W2
      have gl2 := dk2.cb.lt
      have gnmb := dk2.gb
      have bl2 := dk2.mp.lt
      have rl5 := k52.lt
      have A2 := Lib.hid (WR.out w2.drew (dk2.ext (Ext.refl w2).drew) hin)
      have T3 : Hid (∀ s, w2.drew.grownBy s (some mb) → s.cell? ⟨g, 1, none⟩ = some (.map (some mb)) ∧ Cb s r5 45 (cellsOf xs) ∧ Two g mb w s) := fun s e => by
        have hb : ∀ i, i < w2.heap.size → i ≠ mb → s.heap[i]? = w2.heap[i]? := fun i hi hne => e.block i hi (fun q => hne (Option.some.inj q))
        exact ⟨(cell_of_heap21 (hb g gl2 gnmb) _).trans (dk2.cb.cell rfl), (hb r5 rl5 r5b).trans k52, T2.out.trans ⟨e.os, e.tape, e.output, e.size, fun i hi _ h2 => hb i hi h2⟩⟩
      clear WR T2 k52 dk2 gl2 gnmb rl5 bl2
      go_upto_region 6 with fail
      refine qgW mb [0, 1, 2, 3, 4, 5, 6] [6] ?_
      generalize w2.drew = W at *
      clear w2
      repeat ((first | refine qR _ (fun w' e => (T3.out w' e).1) ?_ | refine qS ?_); go_frame)
      refine qV rfl (fun w' => w'.heap[r5]? = some (.cells (cellsOf xs).toArray 45 (0, 0))) (fun w' e => (T3.out w' e).2.1) (.agg (cellsOf xs).toArray) (fun w' hF => exec_load_row rfl rfl hF rfl rfl (by rw [S_x]; rfl)) ?_
      go_frame
      refine qD fun K hK => ?_
      obtain ⟨w3, d1, d2, d3⟩ := A2.out
      refine wp_mapUpdate rfl rfl rfl rfl d1 ?_
      refine hK.out _ _ d3 ?_
      clear hK K
      try go_frame
      repeat ((first | refine qR0 ?_ | refine qS ?_); go_frame)
      refine seq_done ?_
      have FN : Hid (DK w3 g r mb (d.write i xs) ∧ Two g mb w w3 ∧ d.writeE i = 0) := by
        exact ⟨by rw [F.out.1]; exact d2, (T3.out _ d3).2.2, F.out.2⟩
      clear F T3 A2 d1 d2 d3
      go_wp2_with fail
      go_ret
      exact ⟨by rw [FN.out.2.2]; rfl, FN.out.1, FN.out.2.1⟩
end Go.Proofs.Yteaoacinhdjkeaa
