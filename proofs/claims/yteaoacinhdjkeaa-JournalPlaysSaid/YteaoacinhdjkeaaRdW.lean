/-
  palfreyref21: Write, Sync.
-/
import Derived.Test.YteaoacinhdjkeaaRdR
namespace Go.Proofs.Yteaoacinhdjkeaa
open Go.ChangeShapes Go.WideShapes Go.ChangeAt Go.RowKit Go.Deep Go.Maps
set_option maxRecDepth 100000

theorem put_isC {d : Ds} {k : Nat} {xs : List UInt8} : (d.put k xs).isC = d.isC.set k (.bool true) := by
  unfold Ds.isC
  show (List.range d.S.length).map (fun i => Value.bool (if i = k then some xs else d.N i).isSome) = _
  apply List.ext_getElem?
  intro i
  rw [List.getElem?_map, List.getElem?_set, List.getElem?_map, List.length_map, List.length_range]
  by_cases h : i < d.S.length
  · rw [List.getElem?_range h]
    by_cases q : k = i
    · subst q
      rw [if_pos rfl, if_pos h, Option.map_some, if_pos rfl]; rfl
    · rw [if_neg q, Option.map_some, if_neg (fun z => q z.symm)]; rfl
  · rw [List.getElem?_eq_none (by rw [List.length_range]; omega)]
    by_cases q : k = i
    · subst q
      rw [if_pos rfl, if_neg h]; rfl
    · rw [if_neg q]; rfl
theorem put_xn {d : Ds} {X : List (List UInt8)} {k : Nat} {xs : List UInt8} (hk : k < X.length) (xn : ∀ j s, d.N j = some s → X.getD j [] = s) : ∀ j s, (d.put k xs).N j = some s → (X.set k xs).getD j [] = s := fun j s q => by
  have q : (if j = k then some xs else d.N j) = some s := q
  by_cases e : j = k
  · rw [if_pos e] at q
    rw [e, List.getD_eq_getElem?_getD, List.getElem?_set_self hk]
    exact Option.some.inj q
  · rw [if_neg e] at q
    rw [List.getD_eq_getElem?_getD, List.getElem?_set_ne (fun z => e z.symm), ← List.getD_eq_getElem?_getD]
    exact xn j s q
/-- The blocks of a disk of the document's that turn. -/
def Rp (g r m i : Nat) (b : Nat) : Prop := b = g ∨ b = r ∨ b = m ∨ b = i
set_option maxHeartbeats 4000000 in
theorem rwrite_calls {w : World} {g r m ir : Nat} {d : Ds} {X : List (List UInt8)} (h : RD w g r m ir d X) {i : Int} {xs : List UInt8} (hx : xs.length = 64) :
    Calls Try.prog 23 #[.pointer (some ⟨g, 0, none⟩), .int .i64 i, .agg (cellsOf xs).toArray] w fun e w' => e = .returned (.int .i64 (d.writeE i)) ∧ (∃ X', RD w' g r m ir (d.write i xs) X') ∧ Ot (Rp g r m ir) w w' := by
  have S_x : (cellsOf xs).toArray.size = 64 := by simp [cellsOf_len, hx]
  have O_x := one_cells (one_mem xs)
  have W0 : Hid (¬ (0 ≤ i ∧ i < (d.S.length : Int)) → d.write i xs = d ∧ d.writeE i = 1) := fun q => ⟨if_neg q, if_neg q⟩
  have W1 : Hid ((0 ≤ i ∧ i < (d.S.length : Int)) → d.fails = true → d.write i xs = d.burn ∧ d.writeE i = 13) := fun q q2 => by
    unfold Ds.write Ds.writeE; rw [if_pos q, if_pos q, if_pos q2, if_pos q2]; exact ⟨rfl, rfl⟩
  have W2 : Hid ((0 ≤ i ∧ i < (d.S.length : Int)) → d.fails = false → d.write i xs = d.burn.put i.toNat xs ∧ d.writeE i = 0) := fun q q2 => by
    unfold Ds.write Ds.writeE; rw [if_pos q, if_pos q, q2]; exact ⟨rfl, rfl⟩
  obtain ⟨r5, hr5⟩ : ∃ q, q = w.heap.size := ⟨_, rfl⟩
  have B0 : Hid (Cb (w.alloc (.cells (cellsOf xs).toArray 48)) r5 48 (cellsOf xs) ∧ Ext w (w.alloc (.cells (cellsOf xs).toArray 48))) := by rw [hr5]; exact ⟨Cb.new _ _ _, (Ext.refl w).alloc _⟩
  replace hr5 := Lib.hid hr5
  have HH := Lib.hid (fun s (e : Ext w s) => h.ext e)
  have g5 := h.cb.lt
  have m5 := h.nr.lt
  clear h
  go_enter Try.func23, Try.ntmps23
  go_upto_region 1 with fail
  refine wp_gen (fun W => Cb W r5 48 (cellsOf xs) ∧ Ext w W) B0.out ?_
  rw [← hr5.out]
  have wr5 : w.heap.size ≤ r5 := Nat.le_of_eq hr5.out.symm
  have r5g : r5 ≠ g := by omega
  have r5m : r5 ≠ m := by omega
  clear B0 hr5 g5 m5
  rintro w0 ⟨k5, x0⟩
  have h0 := HH.out _ x0
  clear HH
  have c0 : w0.cell? ⟨g, 0, none⟩ = some (.slice (some ⟨r, 0, none⟩) d.S.length d.S.length) := h0.cb.cell rfl
  by_cases hin : 0 ≤ i ∧ i < (d.S.length : Int)
  case neg =>
    obtain ⟨e1, e2⟩ := W0.out hin
    have F : Hid (RD w0 g r m ir (d.write i xs) X ∧ Ot (Rp g r m ir) w w0 ∧ d.writeE i = 1) := ⟨by rw [e1]; exact h0, Ot.of_ext x0, e2⟩
    clear W0 W1 W2 h0 e1 e2 k5 x0
    by_cases hn : i < 0
    · have u1 : decide (i < 0) = true := decide_eq_true hn
      clear hin
      go_wp2_with fail
      go_ret
      exact ⟨by rw [F.out.2.2]; rfl, ⟨X, F.out.1⟩, F.out.2.1⟩
    · have u1 : decide (i < 0) = false := decide_eq_false hn
      have u2 : (d.S.length : Int) ≤ i := by omega
      have u3 : decide ((d.S.length : Int) ≤ i) = true := decide_eq_true u2
      clear hin
      go_wp2_with fail
      go_ret
      exact ⟨by rw [F.out.2.2]; rfl, ⟨X, F.out.1⟩, F.out.2.1⟩
  case pos =>
    obtain ⟨n, rfl⟩ : ∃ n : Nat, i = (n : Int) := ⟨i.toNat, by omega⟩
    rw [Int.toNat_natCast] at W2
    replace W1 := Lib.hid (W1.out hin)
    replace W2 := Lib.hid (W2.out hin)
    have hn : n < d.S.length := by omega
    have u1 : decide ((n : Int) < 0) = false := decide_eq_false (by omega)
    have u2 : ¬ (d.S.length : Int) ≤ (n : Int) := by omega
    have u4 : (0 : Int) ≤ (n : Int) := by omega
    have u5 : (n : Int) < (d.S.length : Int) := by omega
    have BU := Lib.hid (rburn_calls h0)
    have gq := (And.intro h0.gr (And.intro h0.gn h0.gi))
    have g0 := h0.cb.lt
    clear W0 hin h0
    go_wp2_with fail
    refine BU.out.mono ?_
    rintro e w2 ⟨rfl, rd2, g2⟩
    have k52 : Cb w2 r5 48 (cellsOf xs) := (g2.block _ k5.lt (fun q => r5g (Option.some.inj q))).trans k5
    have T2 : Hid (Ot (Rp g r m ir) w w2) := (Ot.of_ext x0).trans (Ot.of_grown g2 (.inl rfl))
    clear BU k5 g2 x0 c0
    obtain ⟨fa, hfa⟩ : ∃ q, q = d.fails := ⟨_, rfl⟩
    rw [← hfa] at W1 W2 ⊢
    clear hfa
    cases fa with
    | true =>
      obtain ⟨e1, e2⟩ := W1.out rfl
      have F : Hid (RD w2 g r m ir (d.write (n : Int) xs) X ∧ d.writeE (n : Int) = 13) := ⟨by rw [e1]; exact rd2, e2⟩
      clear W1 W2 e1 e2 k52 rd2
      go_wp2_with fail
      go_ret
      exact ⟨by rw [F.out.2]; rfl, ⟨X, F.out.1⟩, T2.out⟩
    | false =>
      obtain ⟨e1, e2⟩ := W2.out rfl
      have hS := burn_S d
      obtain ⟨D, hD⟩ : ∃ D, D = d.burn := ⟨_, rfl⟩
      rw [← hD] at e1 rd2 hS
      clear hD W1 W2
      have hnD : n < D.S.length := by rw [hS]; exact hn
      have rq := rd2.rq
      have rqd : RQ w2.drew g r m ir (D.rcells r m ir) D.S X D.isC := rq.ext (Ext.refl w2).drew
      obtain ⟨p1, p2⟩ := rqd.putX rd2.xs (k := n) (by rw [rd2.xl]; exact hnD) hx
      have e3 := grown_setCells (w := w2.drew) (g := m) (o := n * 64) (vs := cellsOf xs)
      have gn := rd2.gn
      have ok := put_ok rd2.ok hnD hx
      have FR : Hid (∀ W, RQ W g r m ir (D.rcells r m ir) D.S (X.set n xs) D.isC → RD (W.setCell ⟨ir, n, none⟩ (.bool true)) g r m ir (D.put n xs) (X.set n xs)) := fun W q => by
        have q2 := q.putI n (.bool true)
        rw [← put_isC (xs := xs)] at q2
        exact q2.rd ok (by rw [List.length_set]; exact rd2.xl) (fun s hs => by
          rcases List.mem_or_eq_of_mem_set hs with z | z
          · exact rd2.xs s z
          · rw [z]; exact hx) (put_xn (by rw [rd2.xl]; exact hnD) rd2.xn)
      have G5 : Hid (RQ (w2.drew.setCells m (n * 64) (cellsOf xs)) g r m ir (D.rcells r m ir) D.S (X.set n xs) D.isC ∧ Ot (Rp g r m ir) w (w2.drew.setCells m (n * 64) (cellsOf xs))) := ⟨p1, T2.out.trans ((Ot.of_ext (Ext.refl w2).drew).trans (Ot.of_grown e3 (.inr (.inr (.inl rfl)))))⟩
      have F5 : Hid (∀ s, w2.drew.grownBy s (some m) → s.cell? ⟨g, 1, none⟩ = some (.slice (some ⟨m, 0, none⟩) d.S.length d.S.length) ∧ Cb s r5 48 (cellsOf xs)) := fun s e =>
        ⟨(cell_of_heap21 (e.block g rd2.cb.lt (fun q => gn (Option.some.inj q))) 1).trans (by rw [← hS]; exact rd2.cb.cell rfl), (e.block _ k52.lt (fun q => r5m (Option.some.inj q))).trans k52⟩
      replace p2 := Lib.hid p2
      replace e1 := Lib.hid e1
      replace e2 := Lib.hid e2
      replace hS := Lib.hid hS
      clear rq rqd p1 e3 T2 rd2 k52
      go_upto_region 5 with fail
      refine qgW m [0, 1, 2, 3, 4, 5, 6, 7] [7] ?_
      generalize w2.drew = W at *
      repeat ((first | refine qR _ (fun w' e => (F5.out w' e).1) ?_ | refine qS ?_); go_frame)
      refine qV rfl (fun w' => w'.heap[r5]? = some (.cells (cellsOf xs).toArray 48 (0, 0))) (fun w' e => (F5.out w' e).2) (.agg (cellsOf xs).toArray) (fun w' hF => exec_load_row rfl rfl hF rfl rfl (by rw [S_x]; rfl)) ?_
      go_frame
      repeat ((first | refine qR _ (fun w' e => (F5.out w' e).1) ?_ | refine qS ?_); go_frame)
      refine qD fun K hK => ?_
      refine wp_store_mid 48 _ _ rfl m (n * 64) (cellsOf xs).toArray rfl rfl (by rw [S_x]; exact p2.out) (by rw [S_x]; rfl) O_x ?_
      refine hK.out _ _ grown_setCells ?_
      clear hK K
      try go_frame
      repeat ((first | refine qR0 ?_ | refine qS ?_); go_frame)
      refine seq_done ?_
      refine gen_q (fun W => RQ W g r m ir (D.rcells r m ir) D.S (X.set n xs) D.isC ∧ Ot (Rp g r m ir) w W) G5.out ?_
      clear G5 F5 p2
      rintro w3 ⟨rq, t3⟩
      have c2 : w3.cell? ⟨g, 2, none⟩ = some (.slice (some ⟨ir, 0, none⟩) d.S.length d.S.length) := by rw [← hS.out]; exact rq.cb.cell rfl
      have ci : w3.cell? ⟨ir, n, none⟩ = some (.bool (D.N n).isSome) := rq.ir.cell (isC_at hnD)
      have fi := rq.ir.frozen n
      have F : Hid (RD (w3.setCell ⟨ir, n, none⟩ (.bool true)) g r m ir (d.write (n : Int) xs) (X.set n xs) ∧ Ot (Rp g r m ir) w (w3.setCell ⟨ir, n, none⟩ (.bool true)) ∧ d.writeE (n : Int) = 0) := ⟨by rw [e1.out]; exact FR.out _ rq, t3.trans (Ot.cell _ _ _ (.inr (.inr (.inr rfl)))), e2.out⟩
      clear rq t3 FR e1 e2
      go_wp2_with fail
      go_ret
      exact ⟨by rw [F.out.2.2]; rfl, ⟨_, F.out.1⟩, F.out.2.1⟩
end Go.Proofs.Yteaoacinhdjkeaa
