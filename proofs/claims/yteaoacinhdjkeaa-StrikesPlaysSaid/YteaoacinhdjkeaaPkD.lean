import Derived.Test.YteaoacinhdjkeaaPkE
import Derived.Test.YteaoacinhdjkeaaPkI
section
/-
  palfreyref21: Write, Sync.
-/
namespace Go.Proofs.Yteaoacinhdjkeaa
open Go.ChangeShapes Go.WideShapes Go.ChangeAt Go.RowKit Go.Deep Go.Maps
set_option maxRecDepth 100000

theorem put_isC {d : Ds} {k : Nat} {xs : List UInt8} : (d.put k xs).isC = d.isC.set k (.bool true) := by
  unfold Ds.isC
  show (List.range d.S.length).map (fun i => Value.bool (if i = k then some xs else d.N i).isSome) = _
  apply List.ext_getElem?
  intro i
  rw [List.getElem?_map, List.getElem?_set, List.getElem?_map, List.length_map, List.length_range]
  by_cases h : i < d.S.length
  · rw [List.getElem?_range h]
    by_cases q : k = i
    · subst q
      rw [if_pos rfl, if_pos h, Option.map_some, if_pos rfl]; rfl
    · rw [if_neg q, Option.map_some, if_neg (fun z => q z.symm)]; rfl
  · rw [List.getElem?_eq_none (by rw [List.length_range]; omega)]
    by_cases q : k = i
    · subst q
      rw [if_pos rfl, if_neg h]; rfl
    · rw [if_neg q]; rfl
theorem put_xn {d : Ds} {X : List (List UInt8)} {k : Nat} {xs : List UInt8} (hk : k < X.length) (xn : ∀ j s, d.N j = some s → X.getD j [] = s) : ∀ j s, (d.put k xs).N j = some s → (X.set k xs).getD j [] = s := fun j s q => by
  have q : (if j = k then some xs else d.N j) = some s := q
  by_cases e : j = k
  · rw [if_pos e] at q
    rw [e, List.getD_eq_getElem?_getD, List.getElem?_set_self hk]
    exact Option.some.inj q
  · rw [if_neg e] at q
    rw [List.getD_eq_getElem?_getD, List.getElem?_set_ne (fun z => e z.symm), ← List.getD_eq_getElem?_getD]
    exact xn j s q
/-- The blocks of a disk of the document's that turn. -/
def Rp (g r m i : Nat) (b : Nat) : Prop := b = g ∨ b = r ∨ b = m ∨ b = i
set_option maxHeartbeats 4000000 in
theorem rwrite_calls {w : World} {g r m ir : Nat} {d : Ds} {X : List (List UInt8)} (h : RD w g r m ir d X) {i : Int} {xs : List UInt8} (hx : xs.length = 64) :
    Calls Try.prog 23 #[.pointer (some ⟨g, 0, none⟩), .int .i64 i, .agg (cellsOf xs).toArray] w fun e w' => e = .returned (.int .i64 (d.writeE i)) ∧ (∃ X', RD w' g r m ir (d.write i xs) X') ∧ Ot (Rp g r m ir) w w' := by
  have S_x : (cellsOf xs).toArray.size = 64 := by simp [cellsOf_len, hx]
  have O_x := one_cells (one_mem xs)
  have W0 : Hid (¬ (0 ≤ i ∧ i < (d.S.length : Int)) → d.write i xs = d ∧ d.writeE i = 1) := fun q => ⟨if_neg q, if_neg q⟩
  have W1 : Hid ((0 ≤ i ∧ i < (d.S.length : Int)) → d.fails = true → d.write i xs = d.burn ∧ d.writeE i = 13) := fun q q2 => by
    unfold Ds.write Ds.writeE; rw [if_pos q, if_pos q, if_pos q2, if_pos q2]; exact ⟨rfl, rfl⟩
  have W2 : Hid ((0 ≤ i ∧ i < (d.S.length : Int)) → d.fails = false → d.write i xs = d.burn.put i.toNat xs ∧ d.writeE i = 0) := fun q q2 => by
    unfold Ds.write Ds.writeE; rw [if_pos q, if_pos q, q2]; exact ⟨rfl, rfl⟩
  obtain ⟨r5, hr5⟩ : ∃ q, q = w.heap.size := ⟨_, rfl⟩
  have B0 : Hid (Cb (w.alloc (.cells (cellsOf xs).toArray 48)) r5 48 (cellsOf xs) ∧ Ext w (w.alloc (.cells (cellsOf xs).toArray 48))) := by rw [hr5]; exact ⟨Cb.new _ _ _, (Ext.refl w).alloc _⟩
  replace hr5 := Lib.hid hr5
  have HH := Lib.hid (fun s (e : Ext w s) => h.ext e)
  have g5 := h.cb.lt
  have m5 := h.nr.lt
  clear h
  go_enter Try.func23, Try.ntmps23
  go_upto_region 1 with fail
  refine wp_gen (fun W => Cb W r5 48 (cellsOf xs) ∧ Ext w W) B0.out ?_
  rw [← hr5.out]
  have wr5 : w.heap.size ≤ r5 := Nat.le_of_eq hr5.out.symm
  have r5g : r5 ≠ g := by omega
  have r5m : r5 ≠ m := by omega
  clear B0 hr5 g5 m5
  rintro w0 ⟨k5, x0⟩
  have h0 := HH.out _ x0
  clear HH
  have c0 : w0.cell? ⟨g, 0, none⟩ = some (.slice (some ⟨r, 0, none⟩) d.S.length d.S.length) := h0.cb.cell rfl
  by_cases hin : 0 ≤ i ∧ i < (d.S.length : Int)
  case neg =>
    obtain ⟨e1, e2⟩ := W0.out hin
    have F : Hid (RD w0 g r m ir (d.write i xs) X ∧ Ot (Rp g r m ir) w w0 ∧ d.writeE i = 1) := ⟨by rw [e1]; exact h0, Ot.of_ext x0, e2⟩
    clear W0 W1 W2 h0 e1 e2 k5 x0
    by_cases hn : i < 0
    · have u1 : decide (i < 0) = true := decide_eq_true hn
      clear hin
      go_wp2_with fail
      go_ret
      exact ⟨by rw [F.out.2.2]; rfl, ⟨X, F.out.1⟩, F.out.2.1⟩
    · have u1 : decide (i < 0) = false := decide_eq_false hn
      have u2 : (d.S.length : Int) ≤ i := by omega
      have u3 : decide ((d.S.length : Int) ≤ i) = true := decide_eq_true u2
      clear hin
      go_wp2_with fail
      go_ret
      exact ⟨by rw [F.out.2.2]; rfl, ⟨X, F.out.1⟩, F.out.2.1⟩
  case pos =>
    obtain ⟨n, rfl⟩ : ∃ n : Nat, i = (n : Int) := ⟨i.toNat, by omega⟩
    rw [Int.toNat_natCast] at W2
    replace W1 := Lib.hid (W1.out hin)
    replace W2 := Lib.hid (W2.out hin)
    have hn : n < d.S.length := by omega
    have u1 : decide ((n : Int) < 0) = false := decide_eq_false (by omega)
    have u2 : ¬ (d.S.length : Int) ≤ (n : Int) := by omega
    have u4 : (0 : Int) ≤ (n : Int) := by omega
    have u5 : (n : Int) < (d.S.length : Int) := by omega
    have BU := Lib.hid (rburn_calls h0)
    have gq := (And.intro h0.gr (And.intro h0.gn h0.gi))
    have g0 := h0.cb.lt
    clear W0 hin h0
    go_wp2_with fail
    refine BU.out.mono ?_
    rintro e w2 ⟨rfl, rd2, g2⟩
    have k52 : Cb w2 r5 48 (cellsOf xs) := (g2.block _ k5.lt (fun q => r5g (Option.some.inj q))).trans k5
    have T2 : Hid (Ot (Rp g r m ir) w w2) := (Ot.of_ext x0).trans (Ot.of_grown g2 (.inl rfl))
    clear BU k5 g2 x0 c0
    obtain ⟨fa, hfa⟩ : ∃ q, q = d.fails := ⟨_, rfl⟩
    rw [← hfa] at W1 W2 ⊢
    clear hfa
    cases fa with
    | true =>
      obtain ⟨e1, e2⟩ := W1.out rfl
      have F : Hid (RD w2 g r m ir (d.write (n : Int) xs) X ∧ d.writeE (n : Int) = 13) := ⟨by rw [e1]; exact rd2, e2⟩
      clear W1 W2 e1 e2 k52 rd2
      go_wp2_with fail
      go_ret
      exact ⟨by rw [F.out.2]; rfl, ⟨X, F.out.1⟩, T2.out⟩
    | false =>
      obtain ⟨e1, e2⟩ := W2.out rfl
      have hS := burn_S d
      obtain ⟨D, hD⟩ : ∃ D, D = d.burn := ⟨_, rfl⟩
      rw [← hD] at e1 rd2 hS
      clear hD W1 W2
      have hnD : n < D.S.length := by rw [hS]; exact hn
      have rq := rd2.rq
      have rqd : RQ w2.drew g r m ir (D.rcells r m ir) D.S X D.isC := rq.ext (Ext.refl w2).drew
      obtain ⟨p1, p2⟩ := rqd.putX rd2.xs (k := n) (by rw [rd2.xl]; exact hnD) hx
      have e3 := grown_setCells (w := w2.drew) (g := m) (o := n * 64) (vs := cellsOf xs)
      have gn := rd2.gn
      have ok := put_ok rd2.ok hnD hx
      have FR : Hid (∀ W, RQ W g r m ir (D.rcells r m ir) D.S (X.set n xs) D.isC → RD (W.setCell ⟨ir, n, none⟩ (.bool true)) g r m ir (D.put n xs) (X.set n xs)) := fun W q => by
        have q2 := q.putI n (.bool true)
        rw [← put_isC (xs := xs)] at q2
        exact q2.rd ok (by rw [List.length_set]; exact rd2.xl) (fun s hs => by
          rcases List.mem_or_eq_of_mem_set hs with z | z
          · exact rd2.xs s z
          · rw [z]; exact hx) (put_xn (by rw [rd2.xl]; exact hnD) rd2.xn)
      have G5 : Hid (RQ (w2.drew.setCells m (n * 64) (cellsOf xs)) g r m ir (D.rcells r m ir) D.S (X.set n xs) D.isC ∧ Ot (Rp g r m ir) w (w2.drew.setCells m (n * 64) (cellsOf xs))) := ⟨p1, T2.out.trans ((Ot.of_ext (Ext.refl w2).drew).trans (Ot.of_grown e3 (.inr (.inr (.inl rfl)))))⟩
      have F5 : Hid (∀ s, w2.drew.grownBy s (some m) → s.cell? ⟨g, 1, none⟩ = some (.slice (some ⟨m, 0, none⟩) d.S.length d.S.length) ∧ Cb s r5 48 (cellsOf xs)) := fun s e =>
        ⟨(cell_of_heap21 (e.block g rd2.cb.lt (fun q => gn (Option.some.inj q))) 1).trans (by rw [← hS]; exact rd2.cb.cell rfl), (e.block _ k52.lt (fun q => r5m (Option.some.inj q))).trans k52⟩
      replace p2 := Lib.hid p2
      replace e1 := Lib.hid e1
      replace e2 := Lib.hid e2
      replace hS := Lib.hid hS
      clear rq rqd p1 e3 T2 rd2 k52
      go_upto_region 5 with fail
      refine qgW m [0, 1, 2, 3, 4, 5, 6, 7] [7] ?_
      generalize w2.drew = W at *
      repeat ((first | refine qR _ (fun w' e => (F5.out w' e).1) ?_ | refine qS ?_); go_frame)
      refine qV rfl (fun w' => w'.heap[r5]? = some (.cells (cellsOf xs).toArray 48 (0, 0))) (fun w' e => (F5.out w' e).2) (.agg (cellsOf xs).toArray) (fun w' hF => exec_load_row rfl rfl hF rfl rfl (by rw [S_x]; rfl)) ?_
      go_frame
      repeat ((first | refine qR _ (fun w' e => (F5.out w' e).1) ?_ | refine qS ?_); go_frame)
      refine qD fun K hK => ?_
      refine wp_store_mid 48 _ _ rfl m (n * 64) (cellsOf xs).toArray rfl rfl (by rw [S_x]; exact p2.out) (by rw [S_x]; rfl) O_x ?_
      refine hK.out _ _ grown_setCells ?_
      clear hK K
      try go_frame
      repeat ((first | refine qR0 ?_ | refine qS ?_); go_frame)
      refine seq_done ?_
      refine gen_q (fun W => RQ W g r m ir (D.rcells r m ir) D.S (X.set n xs) D.isC ∧ Ot (Rp g r m ir) w W) G5.out ?_
      clear G5 F5 p2
      rintro w3 ⟨rq, t3⟩
      have c2 : w3.cell? ⟨g, 2, none⟩ = some (.slice (some ⟨ir, 0, none⟩) d.S.length d.S.length) := by rw [← hS.out]; exact rq.cb.cell rfl
      have ci : w3.cell? ⟨ir, n, none⟩ = some (.bool (D.N n).isSome) := rq.ir.cell (isC_at hnD)
      have fi := rq.ir.frozen n
      have F : Hid (RD (w3.setCell ⟨ir, n, none⟩ (.bool true)) g r m ir (d.write (n : Int) xs) (X.set n xs) ∧ Ot (Rp g r m ir) w (w3.setCell ⟨ir, n, none⟩ (.bool true)) ∧ d.writeE (n : Int) = 0) := ⟨by rw [e1.out]; exact FR.out _ rq, t3.trans (Ot.cell _ _ _ (.inr (.inr (.inr rfl)))), e2.out⟩
      clear rq t3 FR e1 e2
      go_wp2_with fail
      go_ret
      exact ⟨by rw [F.out.2.2]; rfl, ⟨_, F.out.1⟩, F.out.2.1⟩
end Go.Proofs.Yteaoacinhdjkeaa
end

section
/-
  palfreyref21: Sync.
-/
namespace Go.Proofs.Yteaoacinhdjkeaa
open Go.ChangeShapes Go.WideShapes Go.ChangeAt Go.RowKit Go.Deep Go.Maps
set_option maxRecDepth 100000

/-- A disk whose first k sectors are made sure. -/
def Ds.fl (d : Ds) (k : Nat) : Ds := { d with S := (List.range d.S.length).map fun i => if i < k then (d.N i).getD (d.S.getD i []) else d.S.getD i [], N := fun i => if i < k then none else d.N i }
theorem fl_len (d : Ds) (k : Nat) : (d.fl k).S.length = d.S.length := by simp [Ds.fl]
theorem fl_at {d : Ds} {k i : Nat} (h : i < d.S.length) : (d.fl k).S.getD i [] = if i < k then (d.N i).getD (d.S.getD i []) else d.S.getD i [] := by
  show ((List.range d.S.length).map _).getD i [] = _
  rw [List.getD_eq_getElem?_getD, List.getElem?_map, List.getElem?_range h]
  rfl
theorem ext_getD {L M : List (List UInt8)} (h : L.length = M.length) (k : ∀ i, i < L.length → L.getD i [] = M.getD i []) : L = M := by
  apply List.ext_getElem h
  intro i h1 h2
  have := k i h1
  rwa [List.getD_eq_getElem?_getD, List.getElem?_eq_getElem h1, List.getD_eq_getElem?_getD, List.getElem?_eq_getElem h2] at this
theorem fl_zero (d : Ds) : d.fl 0 = d := by
  have h1 : (d.fl 0).S = d.S := ext_getD (fl_len d 0) fun i hi => by rw [fl_at (by rwa [fl_len] at hi), if_neg (by omega)]
  have h2 : (d.fl 0).N = d.N := by funext i; show (if i < 0 then none else d.N i) = _; rw [if_neg (by omega)]
  show (⟨(d.fl 0).S, (d.fl 0).N, d.hf, d.f, d.dd⟩ : Ds) = d
  rw [h1, h2]
theorem fl_full {d : Ds} (ok : d.ok) : d.fl d.S.length = d.flush := by
  have h1 : (d.fl d.S.length).S = d.flush.S := ext_getD (by rw [fl_len]; simp [Ds.flush]) fun i hi => by
    rw [fl_len] at hi
    rw [fl_at hi, if_pos hi]
    show _ = ((List.range d.S.length).map _).getD i []
    rw [List.getD_eq_getElem?_getD (l := (List.range d.S.length).map _), List.getElem?_map, List.getElem?_range hi]
    rfl
  have h2 : (d.fl d.S.length).N = d.flush.N := by
    funext i
    show (if i < d.S.length then none else d.N i) = none
    by_cases q : i < d.S.length
    · rw [if_pos q]
    · rw [if_neg q]
      cases z : d.N i
      · rfl
      · exact absurd (ok.nl _ _ z).2 q
  show (⟨(d.fl d.S.length).S, (d.fl d.S.length).N, d.hf, d.f, d.dd⟩ : Ds) = ⟨d.flush.S, d.flush.N, d.hf, d.f, d.dd⟩
  rw [h1, h2]
theorem fl_ok {d : Ds} (ok : d.ok) (k : Nat) : (d.fl k).ok := ⟨by rw [fl_len]; exact ok.low, by rw [fl_len]; exact ok.most, fun s hs => by
  obtain ⟨i, hi, rfl⟩ := List.mem_iff_getElem.1 hs
  have q := fl_at (d := d) (k := k) (i := i) (by rwa [fl_len] at hi)
  rw [List.getD_eq_getElem?_getD, List.getElem?_eq_getElem hi, Option.getD_some] at q
  rw [q]
  have hs : (d.S.getD i []).length = 64 := by
    have : i < d.S.length := by rwa [fl_len] at hi
    rw [List.getD_eq_getElem?_getD, List.getElem?_eq_getElem this, Option.getD_some]
    exact ok.sl _ (List.getElem_mem this)
  split
  · cases z : d.N i
    · exact hs
    · exact (ok.nl _ _ z).1
  · exact hs, fun i s h => by
    rw [fl_len]
    have h : (if i < k then none else d.N i) = some s := h
    split at h
    · cases h
    · exact ok.nl i s h, ok.fl⟩
theorem fl_S_some {d : Ds} {k : Nat} {s : List UInt8} (hk : k < d.S.length) (h : d.N k = some s) : (d.fl (k + 1)).S = (d.fl k).S.set k s := ext_getD (by rw [List.length_set, fl_len, fl_len]) fun i hi => by
  rw [fl_len] at hi
  rw [fl_at hi]
  by_cases q : k = i
  · subst q
    rw [if_pos (by omega), h, List.getD_eq_getElem?_getD (l := List.set ..), List.getElem?_set_self (by rw [fl_len]; exact hk)]
    rfl
  · rw [List.getD_eq_getElem?_getD (l := List.set ..), List.getElem?_set_ne q, ← List.getD_eq_getElem?_getD, fl_at hi]
    by_cases z : i < k
    · rw [if_pos (by omega), if_pos z]
    · rw [if_neg (by omega), if_neg z]
theorem fl_S_none {d : Ds} {k : Nat} (h : d.N k = none) : (d.fl (k + 1)).S = (d.fl k).S := ext_getD (by rw [fl_len, fl_len]) fun i hi => by
  rw [fl_len] at hi
  rw [fl_at hi, fl_at hi]
  by_cases q : k = i
  · subst q
    rw [if_pos (by omega), if_neg (by omega), h]
    rfl
  · by_cases z : i < k
    · rw [if_pos (by omega), if_pos z]
    · rw [if_neg (by omega), if_neg z]
theorem fl_isC {d : Ds} {k : Nat} : (d.fl (k + 1)).isC = (d.fl k).isC.set k (.bool false) := by
  unfold Ds.isC
  rw [fl_len, fl_len]
  apply List.ext_getElem?
  intro i
  rw [List.getElem?_map, List.getElem?_set, List.getElem?_map, List.length_map, List.length_range]
  by_cases h : i < d.S.length
  · rw [List.getElem?_range h, Option.map_some, Option.map_some]
    show some (Value.bool (if i < k + 1 then none else d.N i).isSome) = if k = i then (if k < d.S.length then some (Value.bool false) else none) else some (Value.bool (if i < k then none else d.N i).isSome)
    by_cases q : k = i
    · subst q
      rw [if_pos rfl, if_pos h, if_pos (by omega)]; rfl
    · rw [if_neg q]
      by_cases z : i < k
      · rw [if_pos (by omega), if_pos z]
      · rw [if_neg (by omega), if_neg z]
  · rw [List.getElem?_eq_none (by rw [List.length_range]; omega)]
    by_cases q : k = i
    · subst q
      rw [if_pos rfl, if_neg h]; rfl
    · rw [if_neg q]; rfl
theorem fl_rcells (d : Ds) (k r m i : Nat) : (d.fl k).rcells r m i = d.rcells r m i := by
  unfold Ds.rcells
  rw [fl_len]
  rfl
theorem fl_N {d : Ds} {k : Nat} : (d.fl k).N k = d.N k := by show (if k < k then none else d.N k) = _; rw [if_neg (by omega)]
set_option maxHeartbeats 4000000 in
theorem rsync_calls {w : World} {g r m ir : Nat} {d : Ds} {X : List (List UInt8)} (h : RD w g r m ir d X) :
    Calls Try.prog 48 #[.pointer (some ⟨g, 0, none⟩)] w fun e w' => e = .returned (.int .i64 (if d.fails then 13 else 0)) ∧ RD w' g r m ir (if d.fails then d.burn else d.burn.flush) X ∧ Ot (Rp g r m ir) w w' := by
  have BU := Lib.hid (rburn_calls h)
  obtain ⟨fa, hfa⟩ : ∃ q, q = d.fails := ⟨_, rfl⟩
  rw [← hfa] at BU ⊢
  clear hfa h
  generalize d.burn = D at *
  go_enter Try.func48, Try.ntmps48
  go_wp2_with fail
  refine BU.out.mono ?_
  rintro e w2 ⟨rfl, rd2, g2⟩
  have T2 : Hid (Ot (Rp g r m ir) w w2) := Ot.of_grown g2 (.inl rfl)
  clear BU g2
  cases fa with
  | true =>
    replace rd2 := Lib.hid rd2
    go_wp2_with fail
    go_ret
    exact ⟨rfl, rd2.out, T2.out⟩
  | false =>
    have ok := Lib.hid rd2.ok
    have xl := rd2.xl
    have XS := Lib.hid rd2.xs
    have XN := Lib.hid rd2.xn
    have nn := And.intro rd2.gr (And.intro rd2.gn (And.intro rd2.gi (And.intro rd2.ri rd2.ni)))
    have m64 := rd2.ok.most
    replace rd2 : RQ w2 g r m ir (D.rcells r m ir) (D.fl 0).S X (D.fl 0).isC := by rw [fl_zero]; exact rd2.rq
    replace rd2 := Lib.hid rd2
    obtain ⟨n1, n2, n3, n4, n5⟩ := nn
    go_wp2_with fail
    go_loopw [3] (fun v wr => ∃ k : Nat, k ≤ D.S.length ∧ v = .int .i64 (k : Int) ∧ RQ wr g r m ir (D.rcells r m ir) (D.fl k).S X (D.fl k).isC ∧ Ot (Rp g r m ir) w wr) (fun v _ => D.S.length - (intOf v).toNat)
    case atStart => exact ⟨0, Nat.zero_le _, rfl, rd2.out, T2.out⟩
    case round =>
      clear rd2 T2
      obtain ⟨k, hk, rfl, rq, tr⟩ := hrel
      have c2 : wr.cell? ⟨g, 2, none⟩ = some (.slice (some ⟨ir, 0, none⟩) D.S.length D.S.length) := rq.cb.cell rfl
      by_cases hlt : k < D.S.length
      · have ci : wr.cell? ⟨ir, k, none⟩ = some (.bool (D.N k).isSome) := by
          rw [← fl_N]
          exact rq.ir.cell (isC_at (by rw [fl_len]; exact hlt))
        have fi := rq.ir.frozen k
        have u1 : (0 : Int) ≤ (k : Int) := by omega
        have u2 : (k : Int) < (D.S.length : Int) := by omega
        have hk1 : IntKind.i64.wrap ((k : Int) + 1) = (k : Int) + 1 := IntWalk.i64_in _ (by omega)
        cases hN : D.N k with
        | none =>
          rw [hN] at ci
          have F : Hid (RQ (wr.setCell ⟨ir, k, none⟩ (.bool false)) g r m ir (D.rcells r m ir) (D.fl (k + 1)).S X (D.fl (k + 1)).isC ∧ Ot (Rp g r m ir) w (wr.setCell ⟨ir, k, none⟩ (.bool false))) := by
            have q := rq.putI k (.bool false)
            rw [← fl_isC, ← fl_S_none hN] at q
            exact ⟨q, tr.trans (Ot.cell _ _ _ (.inr (.inr (.inr rfl))))⟩
          clear rq tr hN
          go_wp2_with fail
          go_round
          case rel => exact ⟨k + 1, by omega, by go_num, F.out.1, F.out.2⟩
          case measure => simp [intOf]; omega
        | some s =>
          rw [hN] at ci
          have ls := (ok.out.nl _ _ hN).1
          have hX : X.getD k [] = s := XN.out _ _ hN
          have S_s : (cellsOf s).toArray.size = 64 := by simp [cellsOf_len, ls]
          have C_s : (cellsOf s).length = 64 := by rw [cellsOf_len, ls]
          have O_s := one_cells (one_mem s)
          have okk := fl_ok ok.out k
          have rqd : RQ wr.drew g r m ir (D.rcells r m ir) (D.fl k).S X (D.fl k).isC := rq.ext (Ext.refl wr).drew
          obtain ⟨p1, p2⟩ := rqd.putS okk.sl (k := k) (by rw [fl_len]; exact hlt) ls
          rw [← fl_S_some hlt hN] at p1
          have e3 := grown_setCells (w := wr.drew) (g := r) (o := k * 64) (vs := cellsOf s)
          have G5 : Hid (RQ (wr.drew.setCells r (k * 64) (cellsOf s)) g r m ir (D.rcells r m ir) (D.fl (k + 1)).S X (D.fl k).isC ∧ Ot (Rp g r m ir) w (wr.drew.setCells r (k * 64) (cellsOf s))) := ⟨p1, tr.trans ((Ot.of_ext (Ext.refl wr).drew).trans (Ot.of_grown e3 (.inr (.inl rfl))))⟩
          have F5 : Hid (∀ s', wr.drew.grownBy s' (some r) → (s'.cell? ⟨g, 0, none⟩ = some (.slice (some ⟨r, 0, none⟩) D.S.length D.S.length) ∧ s'.cell? ⟨g, 1, none⟩ = some (.slice (some ⟨m, 0, none⟩) D.S.length D.S.length)) ∧ (∀ j v, (cellsOf s)[j]? = some v → s'.cell? ⟨m, k * 64 + j, none⟩ = some v)) := fun s' e => by
            have hg := cell_of_heap21 (e.block g rq.cb.lt (fun q => n1 (Option.some.inj q)))
            have hm : Cb s' m 48 (X.map cellsOf).flatten := (e.block m rq.nr.lt (fun q => rq.ne (Option.some.inj q).symm)).trans rq.nr
            have := row_at hm XS.out (k := k) (by rw [xl]; exact hlt)
            rw [hX] at this
            exact ⟨⟨(hg 0).trans (rq.cb.cell rfl), (hg 1).trans (rq.cb.cell rfl)⟩, this⟩
          replace p2 := Lib.hid p2
          clear rq tr rqd p1 e3 okk hX hN fi
          go_upto_region 7 with fail
          clear ci c2
          refine qgW r [0, 1, 2, 3, 4, 5, 6, 7, 8, 9, 10, 11, 12, 13] [13] ?_
          generalize wr.drew = W at *
          repeat ((first | refine qR _ (fun w' e => (F5.out w' e).1) ?_ | refine qS ?_); go_frame)
          refine qV rfl (fun w' => ∀ q_ v, (cellsOf s)[q_]? = some v → w'.cell? ⟨m, (k * 64) + q_, none⟩ = some v) (fun w' e => (F5.out w' e).2) (.agg (cellsOf s).toArray) (fun w' hF => exec_load_mid rfl rfl hF rfl rfl (by rw [C_s]; rfl)) ?_
          go_frame
          repeat ((first | refine qR _ (fun w' e => (F5.out w' e).1) ?_ | refine qS ?_); go_frame)
          refine qD fun K hK => ?_
          refine wp_store_mid 48 _ _ rfl r (k * 64) (cellsOf s).toArray rfl rfl (by rw [S_s]; exact p2.out) (by rw [S_s]; rfl) O_s ?_
          refine hK.out _ _ grown_setCells ?_
          clear hK K
          try go_frame
          repeat ((first | refine qR0 ?_ | refine qS ?_); go_frame)
          refine seq_done ?_
          refine gen_q (fun W => RQ W g r m ir (D.rcells r m ir) (D.fl (k + 1)).S X (D.fl k).isC ∧ Ot (Rp g r m ir) w W) G5.out ?_
          clear G5 F5 p2
          rintro w3 ⟨rq, t3⟩
          have c2 : w3.cell? ⟨g, 2, none⟩ = some (.slice (some ⟨ir, 0, none⟩) D.S.length D.S.length) := rq.cb.cell rfl
          have ci : w3.cell? ⟨ir, k, none⟩ = some (.bool ((D.fl k).N k).isSome) := rq.ir.cell (isC_at (by rw [fl_len]; exact hlt))
          have fi := rq.ir.frozen k
          have F : Hid (RQ (w3.setCell ⟨ir, k, none⟩ (.bool false)) g r m ir (D.rcells r m ir) (D.fl (k + 1)).S X (D.fl (k + 1)).isC ∧ Ot (Rp g r m ir) w (w3.setCell ⟨ir, k, none⟩ (.bool false))) := by
            have q := rq.putI k (.bool false)
            rw [← fl_isC] at q
            exact ⟨q, t3.trans (Ot.cell _ _ _ (.inr (.inr (.inr rfl))))⟩
          clear rq t3
          go_wp2_with fail
          go_round
          case rel => exact ⟨k + 1, by omega, by go_num, F.out.1, F.out.2⟩
          case measure => simp [intOf]; omega
      · obtain rfl : k = D.S.length := by omega
        have F : Hid (RD wr g r m ir D.flush X ∧ Ot (Rp g r m ir) w wr) := by
          rw [← fl_rcells D D.S.length, fl_full ok.out] at rq
          refine ⟨rq.rd ?_ ?_ XS.out (fun j s q => by cases q), tr⟩
          · rw [← fl_full ok.out]; exact fl_ok ok.out _
          · rw [xl]; simp [Ds.flush]
        clear rq tr
        go_wp2_with fail
        go_ret
        exact ⟨rfl, F.out.1, F.out.2⟩
end Go.Proofs.Yteaoacinhdjkeaa
end

section
/-
  palfreyref22: Append (its short ways).
-/
namespace Go.Proofs.Yteaoacinhdjkeaa
open Go.ChangeShapes Go.WideShapes Go.ChangeAt Go.RowKit Go.Deep Go.Maps
set_option maxRecDepth 100000

/-- The document's journal whose records' bytes lie outside R. -/
def RS (B : Nat) (R : Nat → Prop) (w : World) (g dg : Nat) (D : Option Addr) (c : Nat) (L : List (List UInt8)) : Prop := Cb w g 53 [.pointer (some ⟨dg, 0, none⟩), .slice D L.length c] ∧ OwnS B R w D L.length c L ∧ B ≤ g
theorem RJ.toS {B : Nat} {R : Nat → Prop} {w : World} {g dg : Nat} {D : Option Addr} {c : Nat} {L : List (List UInt8)} (h : RJ B w g dg D c L) (hR : ∀ i, R i → i < B) : RS B R w g dg D c L := ⟨h.1, h.2.1.toS hR, h.2.2⟩
theorem RS.ext {B : Nat} {R : Nat → Prop} {w w' : World} {g dg : Nat} {D : Option Addr} {c : Nat} {L : List (List UInt8)} (h : RS B R w g dg D c L) (x : Ext w w') : RS B R w' g dg D c L := ⟨h.1.ext x, h.2.1.ext x, h.2.2⟩
set_option maxHeartbeats 4000000 in
theorem rjappend_short {w : World} {B g dg r m ir : Nat} {R : Nat → Prop} {d : Ds} {X : List (List UInt8)} {D : Option Addr} {c : Nat} {L : List (List UInt8)} {A : Option Addr} {n c' : Nat} {xs : List UInt8} (hj : RS B R w g dg D c L) (hd : RD w dg r m ir d X) (hb : Bs w A n c' xs) (hq : 59 < n ∨ d.S.length ≤ L.length) (hL : L.length ≤ 64) :
    Calls Try.prog 17 #[.pointer (some ⟨g, 0, none⟩), .slice A n c'] w fun e w' => e = .returned (.int .i64 (d.jE L.length xs)) ∧ d.jD L.length xs = d ∧ d.jL L xs = L ∧ Ext w w' := by
  have hx := hb.len
  have h1 := hb.le
  have h2 := hb.cap
  have ok := hd.ok
  have dm := ok.most
  by_cases a59 : 59 < n
  · have e : d.jE L.length xs = 1 := if_pos (by omega)
    have F : Hid (d.jD L.length xs = d ∧ d.jL L xs = L) := ⟨if_pos (by omega), if_neg (by rw [e]; decide)⟩
    rw [e]
    clear hj hd
    have l1 : decide ((59 : Int) < (n : Int)) = true := decide_eq_true (by omega)
    go_enter Try.func17, Try.ntmps17
    go_wp2_with fail
    go_ret
    exact ⟨rfl, F.out.1, F.out.2, Ext.refl w⟩
  · have hk : d.S.length ≤ L.length := hq.resolve_left a59
    have l1 : decide ((59 : Int) < (n : Int)) = false := decide_eq_false (by omega)
    have e : d.jE L.length xs = 8 := by unfold Ds.jE; rw [if_neg (by omega), if_pos hk]
    have F : Hid (d.jD L.length xs = d ∧ d.jL L xs = L) := ⟨by unfold Ds.jD; rw [if_neg (by omega), if_pos hk], if_neg (by rw [e]; decide)⟩
    rw [e]
    have KP : Hid (∀ s, Ext w.drew s → s.cell? ⟨g, 0, none⟩ = some (.pointer (some ⟨dg, 0, none⟩)) ∧ s.cell? ⟨g, 1, none⟩ = some (.slice D L.length c) ∧ s.cell? ⟨dg, 0, none⟩ = some (.slice (some ⟨r, 0, none⟩) d.S.length d.S.length)) := fun s x =>
      ⟨((hj.1.ext (Ext.refl w).drew).ext x).cell rfl, ((hj.1.ext (Ext.refl w).drew).ext x).cell rfl, ((hd.ext (Ext.refl w).drew).ext x).cb.cell rfl⟩
    have l2 : (d.S.length : Int) ≤ (L.length : Int) := by omega
    have x0 : Hid (Ext w w.drew) := (Ext.refl w).drew
    clear hj hd hb
    go_enter Try.func17, Try.ntmps17
    go_upto_region 3 with fail
    refine qgE [0, 1, 2, 3, 4, 5, 6, 7, 8, 9, 10, 11, 12, 13] [] ?_
    repeat ((first | refine qR _ (fun w' e => KP.out w' e) ?_ | refine qS ?_); go_frame)
    refine seq_done ?_
    clear KP
    generalize w.drew = V at *
    go_wp2_with fail
    go_ret
    exact ⟨rfl, F.out.1, F.out.2, x0.out⟩
end Go.Proofs.Yteaoacinhdjkeaa
end

section
/-
  palfreyref22: Append (its long way).
-/
namespace Go.Proofs.Yteaoacinhdjkeaa
open Go.ChangeShapes Go.WideShapes Go.ChangeAt Go.RowKit Go.Deep Go.Maps
set_option maxRecDepth 100000

set_option maxHeartbeats 4000000 in
theorem rjappend_long {w : World} {B g dg r m ir : Nat} {R : Nat → Prop} {d : Ds} {X : List (List UInt8)} {D : Option Addr} {c : Nat} {L : List (List UInt8)} {A : Option Addr} {n c' : Nat} {xs : List UInt8} (hj : RS B R w g dg D c L) (hd : RD w dg r m ir d X) (hM : ∀ s, Ot (Rp dg r m ir) w s → Bs s A n c' xs) (hJT : ∀ s, Ot (Rp dg r m ir) w s → RS B R s g dg D c L) (hn : n ≤ 59) (hk : L.length < d.S.length) (hgp : ¬ Rp dg r m ir g) (hRw : ∀ i, R i → i < w.heap.size) :
    Calls Try.prog 17 #[.pointer (some ⟨g, 0, none⟩), .slice A n c'] w fun e w' => e = .returned (.int .i64 (d.jE L.length xs)) ∧ (∃ X', RD w' dg r m ir (d.jD L.length xs) X') ∧ ∃ D' c2, RS B R w' g dg D' c2 (d.jL L xs) ∧ Ot (fun i => Rp dg r m ir i ∨ i = g) w w' ∧
      (Value.ownBlock (.slice D' (d.jL L xs).length c2) = Value.ownBlock (.slice D L.length c) ∨ ∃ i, Value.ownBlock (.slice D' (d.jL L xs).length c2) = some i ∧ w.heap.size ≤ i) := by
  have hb := hM w (Ot.refl _ _)
  have hx := hb.len
  have h1 := hb.le
  have h2 := hb.cap
  have ok := hd.ok
  have dm := ok.most
  have l1 : decide ((59 : Int) < (n : Int)) = false := decide_eq_false (by omega)
  have l2 : ¬ (d.S.length : Int) ≤ (L.length : Int) := by omega
  have S_L := Lib.hid (secL_len (i := L.length) (xs := xs) (by omega))
  have kin : 0 ≤ (L.length : Int) ∧ (L.length : Int) < (d.S.length : Int) := ⟨by omega, by omega⟩
  have wE : d.writeE (L.length : Int) = if d.fails then 13 else 0 := by unfold Ds.writeE; rw [if_pos kin]
  have WF : Hid (d.fails = true → d.write (L.length : Int) (secL L.length xs) = d.burn) := fun q => by unfold Ds.write; rw [if_pos kin, if_pos q]
  have WR : Hid (∀ s, Ext w s → Calls Try.prog 23 #[.pointer (some ⟨dg, 0, none⟩), .int .i64 (L.length : Int), .agg (cellsOf (secL L.length xs)).toArray] s fun e w' => e = .returned (.int .i64 (d.writeE (L.length : Int))) ∧ (∃ X', RD w' dg r m ir (d.write (L.length : Int) (secL L.length xs)) X') ∧ Ot (Rp dg r m ir) s w') := fun s e => rwrite_calls (hd.ext e) S_L.out
  rw [wE] at WR
  have SEC : Hid (∀ s, Ext w s → Calls Try.prog 47 #[.int .i64 (L.length : Int), .slice A n c'] s fun e w' => e = .returned (.agg (cellsOf (secL L.length xs)).toArray) ∧ Ext s w') := fun s e => rsector22_calls (by omega) (hM s (Ot.of_ext e)) (by omega)
  have FE : Hid (d.jE L.length xs = if d.fails then 13 else if (d.write (L.length : Int) (secL L.length xs)).fails then 13 else 0) := by unfold Hid Ds.jE; rw [if_neg (by omega), if_neg (by omega)]
  have FD : Hid (d.jD L.length xs = if d.fails then d.burn else if (d.write (L.length : Int) (secL L.length xs)).fails then (d.write (L.length : Int) (secL L.length xs)).burn else (d.write (L.length : Int) (secL L.length xs)).burn.flush) := by unfold Hid Ds.jD; rw [if_neg (by omega), if_neg (by omega)]
  have FL : Hid (d.jL L xs = if d.jE L.length xs = 0 then L ++ [xs] else L) := rfl
  obtain ⟨d1, hd1⟩ : ∃ q, q = d.write (L.length : Int) (secL L.length xs) := ⟨_, rfl⟩
  rw [← hd1] at WR WF FE FD
  clear hd1 wE
  generalize secL L.length xs = sec at *
  obtain ⟨jE, hjE⟩ : ∃ q, q = d.jE L.length xs := ⟨_, rfl⟩
  obtain ⟨jD, hjD⟩ : ∃ q, q = d.jD L.length xs := ⟨_, rfl⟩
  obtain ⟨jL, hjL⟩ : ∃ q, q = d.jL L xs := ⟨_, rfl⟩
  rw [← hjE] at FE FL ⊢
  rw [← hjD] at FD ⊢
  rw [← hjL] at FL ⊢
  clear hjE hjD hjL
  obtain ⟨fa, hfa⟩ : ∃ q, q = d.fails := ⟨_, rfl⟩
  rw [← hfa] at WR WF FE FD
  clear hfa
  have OP : Hid (∀ s, Ot (Rp dg r m ir) w s → Ot (fun i => Rp dg r m ir i ∨ i = g) w s) := fun s k => k.mono fun i _ q => .inl q
  have KP3 : Hid (∀ s, Ext w.drew s → s.cell? ⟨g, 0, none⟩ = some (.pointer (some ⟨dg, 0, none⟩)) ∧ s.cell? ⟨g, 1, none⟩ = some (.slice D L.length c) ∧ s.cell? ⟨dg, 0, none⟩ = some (.slice (some ⟨r, 0, none⟩) d.S.length d.S.length)) := fun s x =>
    ⟨((hj.1.ext (Ext.refl w).drew).ext x).cell rfl, ((hj.1.ext (Ext.refl w).drew).ext x).cell rfl, ((hd.ext (Ext.refl w).drew).ext x).cb.cell rfl⟩
  have KP5 : Hid (∀ s, Ot (Rp dg r m ir) w.drew.drew s → s.cell? ⟨g, 0, none⟩ = some (.pointer (some ⟨dg, 0, none⟩)) ∧ s.cell? ⟨g, 1, none⟩ = some (.slice D L.length c)) := fun s k => by
    have := (hJT s ((Ot.of_ext ((Ext.refl w).drew.drew)).trans k)).1
    exact ⟨this.cell rfl, this.cell rfl⟩
  have SEC5 := Lib.hid (SEC.out w.drew.drew ((Ext.refl w).drew.drew))
  have X5 : Hid (Ext w w.drew.drew) := (Ext.refl w).drew.drew
  replace hM := Lib.hid hM
  replace hJT := Lib.hid hJT
  clear hj hd SEC S_L hb
  go_enter Try.func17, Try.ntmps17
  go_upto_region 3 with fail
  refine qgE [0, 1, 2, 3, 4, 5, 6, 7, 8, 9, 10, 11, 12, 13] [] ?_
  repeat ((first | refine qR _ (fun w' e => KP3.out w' e) ?_ | refine qS ?_); go_frame)
  refine seq_done ?_
  clear KP3
  go_upto_region 5 with fail
  refine qgR (R := Ot (Rp dg r m ir)) (Ot.refl _) (fun _ _ _ => Ot.trans) [0, 1, 2, 3, 4, 5, 6, 7, 8, 9, 10, 11, 12, 13, 14, 15, 16, 17] [15, 16] ?_
  repeat ((first | refine qR _ (fun w' e => KP5.out w' e) ?_ | refine qS ?_); go_frame)
  generalize w.drew.drew = V at *
  refine qD fun K hK => ?_
  go_simp
  refine SEC5.out.mono ?_
  rintro e w3 ⟨rfl, x3⟩
  refine hK.out _ _ (Ot.of_ext x3) ?_
  clear hK K
  try go_frame
  have WR3 := Lib.hid (WR.out w3 (X5.out.trans x3))
  have x03 := Lib.hid (X5.out.trans x3)
  clear SEC5 WR KP5 x3 X5
  repeat ((first | refine qR0 ?_ | refine qS ?_); go_frame)
  refine qD fun K hK => ?_
  go_simp
  refine WR3.out.mono ?_
  rintro e w4 ⟨rfl, ⟨X4, rd4⟩, t4⟩
  refine hK.out _ _ t4 ?_
  clear hK K
  try go_frame
  have T4 : Hid (Ot (Rp dg r m ir) w w4) := (Ot.of_ext x03.out).trans t4
  replace rd4 := Lib.hid rd4
  clear WR3 t4 x03
  repeat ((first | refine qR0 ?_ | refine qS ?_); go_frame)
  refine seq_done ?_
  cases fa with
  | true =>
    have F : Hid (jE = 13 ∧ jD = d1 ∧ jL = L) := by
      have e1 : jE = 13 := by rw [FE.out]; rfl
      refine ⟨e1, ?_, ?_⟩
      · rw [FD.out, WF.out rfl]; rfl
      · rw [FL.out, e1]; rfl
    clear FE FD FL WF
    go_wp2_with fail
    go_ret
    refine ⟨by rw [F.out.1]; rfl, ⟨X4, by rw [F.out.2.1]; exact rd4.out⟩, D, c, ?_⟩
    rw [F.out.2.2]
    exact ⟨hJT.out _ T4.out, OP.out _ T4.out, .inl rfl⟩
  | false =>
    clear WF
    have c0 := (hJT.out _ T4.out).1.cell (j := 0) rfl
    have SY := Lib.hid (rsync_calls rd4.out)
    obtain ⟨fb, hfb⟩ : ∃ q, q = d1.fails := ⟨_, rfl⟩
    rw [← hfb] at SY FE FD
    clear hfb rd4
    go_wp2_with fail
    refine SY.out.mono ?_
    rintro e w5 ⟨rfl, rd5, t5⟩
    have T5 : Hid (Ot (Rp dg r m ir) w w5) := T4.out.trans t5
    replace rd5 := Lib.hid rd5
    clear SY c0 T4 t5
    cases fb with
    | true =>
      have F : Hid (jE = 13 ∧ jD = d1.burn ∧ jL = L) := by
        have e1 : jE = 13 := by rw [FE.out]; rfl
        refine ⟨e1, ?_, ?_⟩
        · rw [FD.out]; rfl
        · rw [FL.out, e1]; rfl
      clear FE FD FL
      go_wp2_with fail
      go_ret
      refine ⟨by rw [F.out.1]; rfl, ⟨X4, by rw [F.out.2.1]; exact rd5.out⟩, D, c, ?_⟩
      rw [F.out.2.2]
      exact ⟨hJT.out _ T5.out, OP.out _ T5.out, .inl rfl⟩
    | false =>
      have F : Hid (jE = 0 ∧ jD = d1.burn.flush ∧ jL = L ++ [xs]) := by
        have e1 : jE = 0 := by rw [FE.out]; rfl
        refine ⟨e1, ?_, ?_⟩
        · rw [FD.out]; rfl
        · rw [FL.out, e1]; rfl
      clear FE FD FL
      obtain ⟨jg, jo, jB⟩ := hJT.out _ T5.out
      have bx := hM.out _ T5.out
      have sz5 := T5.out.size
      have gB : B ≤ w5.heap.size := Nat.le_of_lt (Nat.lt_of_le_of_lt jB jg.lt)
      have x1 : Ext w5 (w5.alloc (.cells #[] 37)) := (Ext.refl w5).alloc _
      have e1 : OwnS B R (w5.alloc (.cells #[] 37)) (some ⟨w5.heap.size, 0, none⟩) 0 0 [] := OwnS.empty w5 gB
      obtain ⟨vs, v1, v2, v3⟩ := jo.src
      have srcs : 0 < L.length → ∃ ad, D = some ad ∧ ∀ j u, vs[j]? = some u → (w5.alloc (.cells #[] 37)).cell? (ad.add j) = some u := fun h0 => by
        obtain ⟨ad, e, hc⟩ := v2 h0
        exact ⟨ad, e, fun j u hu => (x1.cell (cell_lt (hc j u hu))).trans (hc j u hu)⟩
      have elems : ∀ j, j < L.length → ∃ A' n' c', vs[j]? = some (.slice A' n' c') ∧ Bs (w5.alloc (.cells #[] 37)) A' n' c' (L.getD j []) ∧ (0 < n' → ∀ a, A' = some a → some a.block ≠ Value.ownBlock (.slice (some ⟨w5.heap.size, 0, none⟩) 0 0) ∧ ¬ R a.block) := fun j hj => by
        obtain ⟨A', n', c', q1, q2, q3⟩ := v3 j hj
        refine ⟨A', n', c', q1, q2.ext x1, fun h0 a ha => ⟨fun q => ?_, q3 h0 a ha⟩⟩
        obtain ⟨b, off, e, hb, _⟩ := q2.pos h0
        rw [e] at ha
        injection ha with ha
        subst ha
        have := Option.some.inj q
        simp only at this
        omega
      have szV : B ≤ (w5.alloc (.cells #[] 37)).heap.size := Nat.le_trans gB x1.size
      have c0 := (jg.ext x1).cell (j := 1) rfl
      have Ll : L.length ≤ 900000 := by omega
      replace hM := Lib.hid bx
      replace x1 := Lib.hid x1
      replace e1 := Lib.hid e1
      replace srcs := Lib.hid srcs
      replace elems := Lib.hid elems
      replace v1 := Lib.hid v1
      replace jg := Lib.hid jg
      replace sz5 := Lib.hid sz5
      clear hJT OP v2 v3 bx jo
      go_wp2_with (first
        | (refine wpList_plain rfl fun K hK => ?_; refine wp_append_gs (B := B) rfl rfl rfl e1.out v1.out rfl srcs.out elems.out (by omega) szV ?_; intro D6 c6 w6 o6 g6 q6; rw [Nat.zero_add, List.nil_append] at o6; rw [Nat.zero_add] at q6; rw [Nat.zero_add]; have x6 : Ext w5 w6 := Ot.ext (p := fun i => i = w5.heap.size) x1.out (Ot.of_grown g6 rfl) (fun i q => Nat.le_of_eq q.symm); replace o6 := Lib.hid o6; replace q6 := Lib.hid q6; have xa6 : Hid (Ext w6 (w6.alloc (.cells #[] 5))) := (Ext.refl w6).alloc _; have b7 := Lib.hid (hM.out.ext (x6.trans xa6.out)); replace x6 := Lib.hid x6; have oe := Lib.hid (Own.empty w6 w6.heap.size (Nat.le_refl _)); have sz7 : w6.heap.size ≤ (w6.alloc (.cells #[] 5)).heap.size := xa6.out.size; refine hK _ _ ?_)
        | (at_builtin; refine wpList_append_bs rfl (B := w6.heap.size) (s := .tmp 56) (x := .tmp 57) rfl rfl rfl oe.out b7.out (by omega) sz7 ?_; intro D8 cc8 w8 o8 hg8 hbl8; rw [Nat.zero_add, List.nil_append] at o8; rw [Nat.zero_add]; replace o8 := Lib.hid o8; have x08 := Lib.hid (xa6.out.trans' hbl8); have xa9 : Ext w8 (w8.alloc (.cells #[.slice D8 n cc8] 37)) := (Ext.refl w8).alloc _; have o69 := Lib.hid (o6.out.ext (x08.out.trans xa9)); have b9 := Lib.hid (o8.out.bs.ext xa9); have hc9 := Lib.hid ((Cb.new w8 37 [.slice D8 n cc8]).cell (j := 0) rfl); have far9 := Lib.hid (far_of_newS o8.out o6.out (fun i q => Nat.lt_of_lt_of_le (Nat.lt_of_lt_of_le (hRw i q) sz5.out) x6.out.size)); have x9 := Lib.hid (x6.out.trans (x08.out.trans xa9)); have sz9 : B ≤ (w8.alloc (.cells #[.slice D8 n cc8] 37)).heap.size := Nat.le_trans gB x9.out.size; clear xa9)
        | (at_builtin; refine wpList_plain rfl fun K hK => ?_; refine wp_append_s1 (B := B) (R := R) (b := w8.heap.size) (D := D6) (n := L.length) (c := c6) (A' := D8) (n' := n) (c' := cc8) (l := L) (xs := xs) (s := .tmp 55) (x := .tmp 59) rfl rfl rfl o69.out hc9.out b9.out far9.out Ll sz9 ?_; intro D10 c10 w10 o10 g10 q10; have lo6 : ∀ i, Value.ownBlock (.slice D6 L.length c6) = some i → w5.heap.size ≤ i := fun i q => q6.out.elim (fun z => Nat.le_of_eq (Option.some.inj (z.symm.trans q))) (fun z => Nat.le_trans x1.out.size (Nat.le_of_eq (Option.some.inj (z.symm.trans q)))); have x10 : Ext w5 w10 := Ot.ext (p := fun i => Value.ownBlock (.slice D6 L.length c6) = some i) x9.out ⟨g10.os, g10.tape, g10.output, g10.size, fun i hi hn => g10.block i hi (fun q => hn q.symm)⟩ lo6; have jg10 := jg.out.ext x10; have cg10 := jg10.cell (j := 1) rfl; have fg10 := jg10.frozen 1; have ow10 : Hid (∃ i, Value.ownBlock (.slice D10 (L.length + 1) c10) = some i ∧ w5.heap.size ≤ i) := (q10.elim (fun z => q6.out.elim (fun y => ⟨_, z.trans y, Nat.le_refl _⟩) (fun y => ⟨_, z.trans y, x1.out.size⟩)) (fun z => ⟨_, z, x9.out.size⟩)); replace jg10 := Lib.hid jg10; replace x10 := Lib.hid x10; replace o10 := Lib.hid o10; refine hK _ _ ?_))
      clear cg10 fg10
      have gr1 := gr_cell22 w10 g 1 (.slice D10 (L.length + 1) c10)
      have LL : (L ++ [xs]).length = L.length + 1 := by simp
      go_ret
      refine ⟨by rw [F.out.1]; rfl, ⟨X4, ?_⟩, D10, c10, ?_⟩
      · rw [F.out.2.1]
        have rd : RD w10 dg r m ir d1.burn.flush X4 := rd5.out.ext x10.out
        exact rd.stay (gr1.block _ rd.cb.lt (fun q => hgp (.inl (Option.some.inj q).symm))) (gr1.block _ rd.sr.lt (fun q => hgp (.inr (.inl (Option.some.inj q).symm)))) (gr1.block _ rd.nr.lt (fun q => hgp (.inr (.inr (.inl (Option.some.inj q).symm))))) (gr1.block _ rd.ir.lt (fun q => hgp (.inr (.inr (.inr (Option.some.inj q).symm)))))
      · rw [F.out.2.2]
        refine ⟨⟨?_, ?_, jB⟩, (T5.out.mono fun i _ q => .inl q).trans ((Ot.of_ext x10.out).trans (Ot.of_grown gr1 (.inr rfl))), .inr ?_⟩
        · rw [LL]; exact jg10.out.setCell
        · rw [LL]; exact o10.out.turn jg10.out (by decide) (by rintro v hv i rfl; simp at hv) gr1
        · rw [LL]
          obtain ⟨i, q1, q2⟩ := ow10.out
          exact ⟨i, q1, Nat.le_trans T5.out.size q2⟩
end Go.Proofs.Yteaoacinhdjkeaa
end
