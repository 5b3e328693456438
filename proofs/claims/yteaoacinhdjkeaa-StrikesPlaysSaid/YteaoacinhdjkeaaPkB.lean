import Derived.Test.YteaoacinhdjkeaaPlS
section
/-
  The two ledgers: the calls, one by one.
-/
namespace Go.Proofs.Yteaoacinhdjkeaa
open Go.ChangeShapes Go.WideShapes Go.ChangeAt Go.RowKit Go.Deep Go.Maps
set_option maxRecDepth 100000

theorem RL.cell0 {lo : Nat → Prop} {w : World} {rg g : Nat} {K : List Sk} (h : RL lo w rg g K) : w.cell? ⟨rg, 0, none⟩ = some (.pointer (some ⟨g, 0, none⟩)) := by
  obtain ⟨A, n, c, h1, _⟩ := h
  exact h1.cell rfl
section
variable {w W : World} {g dg r lg rg g' dg' r' m' i' : Nat} {d : Ds} {L : List (List UInt8)} {K : List Sk} {d' : Ds} {L' : List (List UInt8)} {K' : List Sk}
theorem PP.kept {W1 W' : World} {mb lb B : Nat} {R : Nat → Prop} {D : Option Addr} {c B' : Nat} {R' : Nat → Prop} {D' : Option Addr} {c' : Nat} {X : List (List UInt8)} (h : PPx w W1 g dg r lg rg g' dg' r' m' i' d L K d' L' K' mb lb B R D c B' R' D' c' X) {x : Rk} (k : Kept w W1 W' lg g dg r mb lb d B R D c L K x) :
    PP w W' g dg r lg rg g' dg' r' m' i' (d.jD L.length (bytesR x)) (d.jL L (bytesR x)) (if d.jE L.length (bytesR x) = 0 then followL K x else K) d' L' K' ∧ Ko W1 W' := by
  obtain ⟨mb', D2, c2, k1, k2, k3, k4⟩ := k
  exact h.prog k1 k2 k3
theorem PP.add_ok (h : PP w W g dg r lg rg g' dg' r' m' i' d L K d' L' K') (hL : L.length ≤ 64) {a i t : Nat} (ha : a < 8) (hi : i ≤ 1000000) (ht : t ≤ 1000000) (hs : findS K (i : Int) = none) :
    Calls Try.prog 30 #[.pointer (some ⟨lg, 0, none⟩), .int .i64 (a : Int), .int .i64 (i : Int), .int .i64 (t : Int)] W fun e W' => e = .returned (.int .i64 (d.jE L.length (bytesR ⟨1, a, i, t⟩))) ∧ PP w W' g dg r lg rg g' dg' r' m' i' (d.jD L.length (bytesR ⟨1, a, i, t⟩)) (d.jL L (bytesR ⟨1, a, i, t⟩)) (if d.jE L.length (bytesR ⟨1, a, i, t⟩) = 0 then followL K ⟨1, a, i, t⟩ else K) d' L' K' ∧ Ko W W' := by
  obtain ⟨mb, lb, B, R, D, c, B', R', D', c', X, h⟩ := h
  refine (sadd_ok h.sn hL ha hi ht hs).mono ?_
  rintro e W' ⟨he, W1, x1, k⟩
  obtain ⟨p, o⟩ := PP.kept (h.ext x1) k
  exact ⟨he, p, (Ko.of_ext x1).trans o⟩
theorem PP.clear_ok (h : PP w W g dg r lg rg g' dg' r' m' i' d L K d' L' K') (hL : L.length ≤ 64) {i t : Nat} (hi : i ≤ 1000000) (ht : t ≤ 1000000) {s : Sk} (hs : findS K (i : Int) = some s) (hrev : s.rev = false) :
    Calls Try.prog 32 #[.pointer (some ⟨lg, 0, none⟩), .int .i64 (i : Int), .int .i64 (t : Int)] W fun e W' => e = .returned (.int .i64 (d.jE L.length (bytesR ⟨2, s.acc, i, t⟩))) ∧ PP w W' g dg r lg rg g' dg' r' m' i' (d.jD L.length (bytesR ⟨2, s.acc, i, t⟩)) (d.jL L (bytesR ⟨2, s.acc, i, t⟩)) (if d.jE L.length (bytesR ⟨2, s.acc, i, t⟩) = 0 then followL K ⟨2, s.acc, i, t⟩ else K) d' L' K' ∧ Ko W W' := by
  obtain ⟨mb, lb, B, R, D, c, B', R', D', c', X, h⟩ := h
  refine (sclear_ok h.sn hL hi ht hs hrev).mono ?_
  rintro e W' ⟨he, W1, x1, k⟩
  obtain ⟨p, o⟩ := PP.kept (h.ext x1) k
  exact ⟨he, p, (Ko.of_ext x1).trans o⟩
/-- Past the ledger. -/
theorem PP.append (h : PP w W g dg r lg rg g' dg' r' m' i' d L K d' L' K') {A : Option Addr} {n c' : Nat} {xs : List UInt8} (hL : L.length ≤ 64) (hb : Bs w A n c' xs) (hn : n ≤ 1000000) :
    Calls Try.prog 16 #[.pointer (some ⟨g, 0, none⟩), .slice A n c'] W fun e W' => e = .returned (.int .i64 (d.jE L.length xs)) ∧ PP w W' g dg r lg rg g' dg' r' m' i' (d.jD L.length xs) (d.jL L xs) K d' L' K' ∧ Ko W W' := by
  obtain ⟨mb, lb, B, R, D, c, B', R', D', c2, X, h⟩ := h
  have h1 := h.pj.jn.wd
  have h2 := h.pj.jn.wr
  have h3 := h.pj.jn.wm
  refine (h.pj.jn.append23 hL (fun s k => (hb.ext h.pj.jn.ex).ot22 k (fun a ha h0 q => ?_)) hn).mono ?_
  · obtain ⟨b, off, e, hlt, _⟩ := hb.pos h0
    rw [e] at ha
    injection ha with ha
    subst ha
    have q : b = dg ∨ b = r ∨ b = mb := q
    omega
  · rintro e W' ⟨he, mb', D2, c3, j2, ot, hm, ho⟩
    exact ⟨he, h.prog (h.sn.jour j2 ot hm) (ot.mono fun i _ q => .inl q) ho⟩
theorem PP.disk (h : PP w W g dg r lg rg g' dg' r' m' i' d L K d' L' K') {f : FuncId} {args : Array Value} {v : Value} {d2 : Ds} (hc : ∀ mb, DK W dg r mb d → Calls Try.prog f args W fun e W' => e = .returned v ∧ ∃ mb', DK W' dg r mb' d2 ∧ (mb' = mb ∨ W.heap.size ≤ mb') ∧ Ot (Pd22 dg r mb) W W') :
    Calls Try.prog f args W fun e W' => e = .returned v ∧ PP w W' g dg r lg rg g' dg' r' m' i' d2 L K d' L' K' ∧ Ko W W' := by
  obtain ⟨mb, lb, B, R, D, c, B', R', D', c2, X, h⟩ := h
  refine (hc mb h.pj.jn.dk).mono ?_
  rintro e W' ⟨he, mb', dk, hm, k⟩
  have k2 : Ot (Pj22 g dg r mb (Value.ownBlock (.slice D L.length c))) W W' := k.mono fun i _ q => q.elim .inl fun q => q.elim (fun q => .inr (.inl q)) fun q => .inr (.inr (.inl q))
  exact ⟨he, h.prog (h.sn.jour (h.pj.jn.disk dk k hm) k2 hm) (k2.mono fun i _ q => .inl q) (.inl rfl)⟩
theorem PP.rdisk (h : PP w W g dg r lg rg g' dg' r' m' i' d L K d' L' K') {f : FuncId} {args : Array Value} {v : Value} {d2 : Ds} (hc : ∀ X, RD W dg' r' m' i' d' X → Calls Try.prog f args W fun e W' => e = .returned v ∧ (∃ X', RD W' dg' r' m' i' d2 X') ∧ Ot (Rp dg' r' m' i') W W') :
    Calls Try.prog f args W fun e W' => e = .returned v ∧ PP w W' g dg r lg rg g' dg' r' m' i' d L K d2 L' K' ∧ Ko W W' := by
  obtain ⟨mb, lb, B, R, D, c, B', R', D', c2, X, h⟩ := h
  refine (hc X h.pj.rd).mono ?_
  rintro e W' ⟨he, ⟨X', rd⟩, k⟩
  have k2 : Ot (fun i => Rp dg' r' m' i' i ∨ i = g') W W' := k.mono fun i _ q => .inl q
  exact ⟨he, h.ref rd (RS.ot h.pj k) k2 (.inl rfl)⟩
theorem PP.fuse (h : PP w W g dg r lg rg g' dg' r' m' i' d L K d' L' K') {n : Int} (hn : -9223372036854775808 ≤ n ∧ n ≤ 9223372036854775807) : Calls Try.prog 18 #[.pointer (some ⟨dg, 0, none⟩), .int .i64 n] W fun e W' => e = .returned (.tuple #[]) ∧ PP w W' g dg r lg rg g' dg' r' m' i' (d.fuse n) L K d' L' K' ∧ Ko W W' :=
  h.disk fun mb dk => (dfuse_calls dk hn).mono fun e W' q => ⟨q.1, mb, q.2.1, .inl rfl, Ot.of_grown q.2.2 (.inl rfl)⟩
theorem PP.rfuse (h : PP w W g dg r lg rg g' dg' r' m' i' d L K d' L' K') {n : Int} (hn : -9223372036854775808 ≤ n ∧ n ≤ 9223372036854775807) : Calls Try.prog 19 #[.pointer (some ⟨dg', 0, none⟩), .int .i64 n] W fun e W' => e = .returned (.tuple #[]) ∧ PP w W' g dg r lg rg g' dg' r' m' i' d L K (d'.fuse n) L' K' ∧ Ko W W' :=
  h.rdisk fun X rd => (rfuse_calls rd hn).mono fun e W' q => ⟨q.1, ⟨X, q.2.1⟩, Ot.of_grown q.2.2 (.inl rfl)⟩
theorem PP.crash (h : PP w W g dg r lg rg g' dg' r' m' i' d L K d' L' K') {kept : Nat} (hk : kept < 18446744073709551616) : Calls Try.prog 20 #[.pointer (some ⟨dg, 0, none⟩), .int .u64 (kept : Int)] W fun e W' => e = .returned (.tuple #[]) ∧ PP w W' g dg r lg rg g' dg' r' m' i' (d.crash kept) L K d' L' K' ∧ Ko W W' :=
  h.disk fun mb dk => (dcrash_calls dk hk).mono fun e W' q => by
    obtain ⟨q1, mb', q2, q3, q4⟩ := q
    exact ⟨q1, mb', q2, .inr q3, Ot.of_two q4 (.inl rfl) (.inr (.inl rfl))⟩
theorem PP.rcrash (h : PP w W g dg r lg rg g' dg' r' m' i' d L K d' L' K') {kept : Nat} (hk : kept < 18446744073709551616) : Calls Try.prog 21 #[.pointer (some ⟨dg', 0, none⟩), .int .u64 (kept : Int)] W fun e W' => e = .returned (.tuple #[]) ∧ PP w W' g dg r lg rg g' dg' r' m' i' d L K (d'.crash kept) L' K' ∧ Ko W W' :=
  h.rdisk fun X rd => (rcrash_calls rd hk).mono fun e W' q => ⟨q.1, ⟨X, q.2.1⟩, q.2.2⟩
theorem PP.rlow (h : PP w W g dg r lg rg g' dg' r' m' i' d L K d' L' K') : ∀ i, (Rp dg' r' m' i' i ∨ i = g') → i < W.heap.size ∧ w.heap.size ≤ i := fun i q => by
  obtain ⟨mb, lb, B, R, D, c, B', R', D', c2, X, h⟩ := h
  have a1 := h.pj.l1
  have a2 := h.pj.l2
  have a3 := h.pj.l3
  have a4 := h.pj.l4
  have a5 := h.pj.l5
  have a6 := h.pj.rs.2.2
  rcases q with (q | q | q | q) | q
  · subst q; exact ⟨h.pj.rd.cb.lt, a1⟩
  · subst q; exact ⟨h.pj.rd.sr.lt, a2⟩
  · subst q; exact ⟨h.pj.rd.nr.lt, a3⟩
  · subst q; exact ⟨h.pj.rd.ir.lt, a4⟩
  · subst q; exact ⟨h.pj.rs.1.lt, by omega⟩
theorem PP.ex (h : PP w W g dg r lg rg g' dg' r' m' i' d L K d' L' K') : Ext w W := by
  obtain ⟨mb, lb, B, R, D, c, B', R', D', c2, X, h⟩ := h
  exact h.pj.jn.ex
theorem PP.rled (h : PP w W g dg r lg rg g' dg' r' m' i' d L K d' L' K') : ∃ lo, RL lo W rg g' K' := by
  obtain ⟨mb, lb, B, R, D, c, B', R', D', c2, X, h⟩ := h
  exact ⟨_, h.rl⟩
theorem PP.pled (h : PP w W g dg r lg rg g' dg' r' m' i' d L K d' L' K') : ∃ lb, LG W lg g lb K := by
  obtain ⟨mb, lb, B, R, D, c, B', R', D', c2, X, h⟩ := h
  exact ⟨lb, h.le⟩
theorem PP.ok (h : PP w W g dg r lg rg g' dg' r' m' i' d L K d' L' K') : d.ok ∧ OkS K := by
  obtain ⟨mb, lb, B, R, D, c, B', R', D', c2, X, h⟩ := h
  exact ⟨h.pj.jn.dk.ok, h.le.ok⟩
/-- The document's Append, of bytes that stay. -/
theorem PP.rapp (h : PP w W g dg r lg rg g' dg' r' m' i' d L K d' L' K') {A : Option Addr} {n c' : Nat} {xs : List UInt8} (hL : L'.length ≤ 64) (hM : ∀ s, Ot (fun i => Rp dg' r' m' i' i ∨ i = g') W s → Bs s A n c' xs) :
    Calls Try.prog 17 #[.pointer (some ⟨g', 0, none⟩), .slice A n c'] W fun e W' => e = .returned (.int .i64 (d'.jE L'.length xs)) ∧ PP w W' g dg r lg rg g' dg' r' m' i' d L K (d'.jD L'.length xs) (d'.jL L' xs) K' ∧ Ko W W' ∧ Bs W' A n c' xs := by
  obtain ⟨mb, lb, B, R, D, c, B', R', D', c2, X, h⟩ := h
  by_cases q : 59 < n ∨ d'.S.length ≤ L'.length
  · refine (rjappend_short h.pj.rs h.pj.rd (hM W (Ot.refl _ _)) q hL).mono ?_
    rintro e W' ⟨he, e1, e2, x⟩
    refine ⟨he, ?_⟩
    rw [e1, e2]
    exact ⟨⟨_, _, _, _, _, _, _, _, _, _, _, h.ext x⟩, Ko.of_ext x, hM W' (Ot.of_ext x)⟩
  · refine (rjappend_long h.pj.rs h.pj.rd (fun s k => hM s (k.mono fun i _ q => .inl q)) (fun s k => RS.ot h.pj k) (by omega) (by omega) h.pj.ngp h.pj.Q5).mono ?_
    rintro e W' ⟨he, ⟨X', rd⟩, D2, c3, rs, ot, ho⟩
    obtain ⟨p, o⟩ := h.ref rd rs ot ho
    exact ⟨he, p, o, hM W' ot⟩
theorem PP.rtake (h : PP w W g dg r lg rg g' dg' r' m' i' d L K d' L' K') (ok : OkS K') (hK : K'.length ≤ 500) {A : Option Addr} {n c' : Nat} {xs : List UInt8} (hb : Bs W A n c' xs) :
    Calls Try.prog 56 #[.pointer (some ⟨rg, 0, none⟩), .slice A n c'] W fun e W' => e = .returned (.tuple #[]) ∧ PP w W' g dg r lg rg g' dg' r' m' i' d L K d' L' (kAdd K' xs) ∧ Ko W W' := by
  obtain ⟨mb, lb, B, R, D, c, B', R', D', c2, X, h⟩ := h
  refine (rtake23_calls h.rl ok hK hb).mono ?_
  rintro e W' ⟨he, rl, k⟩
  exact ⟨he, h.led rl k⟩
end
end Go.Proofs.Yteaoacinhdjkeaa
end

section
/-
  The document's Add and Clear.
-/
namespace Go.Proofs.Yteaoacinhdjkeaa
open Go.ChangeShapes Go.WideShapes Go.ChangeAt Go.RowKit Go.Deep Go.Maps
set_option maxRecDepth 100000

set_option maxHeartbeats 4000000 in
theorem radd_bad {w : World} {v : Value} {a i t : Int} (h : accB23 a = false ∨ numB23 i = false ∨ numB23 t = false) :
    Calls Try.prog 31 #[v, .int .i64 a, .int .i64 i, .int .i64 t] w fun e w' => e = .returned (.int .i64 1) ∧ w' = w := by
  have NI := Lib.hid (fun W : World => rtime23_calls (w := W) (n := i))
  have NT := Lib.hid (fun W : World => rtime23_calls (w := W) (n := t))
  have HA : accB23 a = false → a < 0 ∨ 7 < a := fun q => by unfold accB23 at q; simp at q; omega
  generalize accB23 a = ba at *
  generalize numB23 i = bi at *
  generalize numB23 t = bt_ at *
  replace h := Lib.hid h
  by_cases a0 : a < 0
  · have u1 : decide (a < 0) = true := decide_eq_true a0
    clear HA
    go_enter Try.func31, Try.ntmps31
    go_wp2_with fail
    go_ret
    exact ⟨rfl, rfl⟩
  have u1 : decide (a < 0) = false := decide_eq_false a0
  by_cases a7 : 7 < a
  · have u2 : decide (7 < a) = true := decide_eq_true a7
    clear HA
    go_enter Try.func31, Try.ntmps31
    go_wp2_with fail
    go_ret
    exact ⟨rfl, rfl⟩
  have u2 : decide (7 < a) = false := decide_eq_false a7
  have hba : Hid (ba = true) := by
    cases ba with
    | false => have := HA rfl; omega
    | true => rfl
  rw [hba.out] at h
  clear HA hba
  go_enter Try.func31, Try.ntmps31
  go_wp2_with fail
  refine (NI.out _).mono ?_
  rintro e w2 ⟨rfl, rfl⟩
  cases bi with
  | false =>
    go_wp2_with fail
    go_ret
    exact ⟨rfl, rfl⟩
  | true =>
    go_wp2_with fail
    refine (NT.out _).mono ?_
    rintro e w3 ⟨rfl, rfl⟩
    cases bt_ with
    | false =>
      go_wp2_with fail
      go_ret
      exact ⟨rfl, rfl⟩
    | true => exact absurd h.out (by simp)
set_option maxHeartbeats 4000000 in
theorem radd_twice {w : World} {lo : Nat → Prop} {rg g : Nat} {K : List Sk} (h : RL lo w rg g K) (hK : K.length ≤ 1000) {a i t : Nat} (ha : a < 8) (hi : i ≤ 1000000) (ht : t ≤ 1000000) {s : Sk} (hs : findS K (i : Int) = some s) :
    Calls Try.prog 31 #[.pointer (some ⟨rg, 0, none⟩), .int .i64 (a : Int), .int .i64 (i : Int), .int .i64 (t : Int)] w fun e w' => e = .returned (.int .i64 9) ∧ w' = w := by
  have NI := Lib.hid (fun W : World => rtime23_calls (w := W) (n := (i : Int)))
  have NT := Lib.hid (fun W : World => rtime23_calls (w := W) (n := (t : Int)))
  rw [numB_nat hi] at NI
  rw [numB_nat ht] at NT
  have AT := Lib.hid (rat23_calls h hK (id := (i : Int)))
  have u1 : decide ((a : Int) < 0) = false := decide_eq_false (by omega)
  have u2 : decide ((7 : Int) < (a : Int)) = false := decide_eq_false (by omega)
  clear h
  go_enter Try.func31, Try.ntmps31
  go_wp2_with fail
  refine (NI.out _).mono ?_
  rintro e w2 ⟨rfl, rfl⟩
  go_wp2_with fail
  refine (NT.out _).mono ?_
  rintro e w3 ⟨rfl, rfl⟩
  go_wp2_with fail
  refine AT.out.mono ?_
  rintro e w4 ⟨⟨r, rfl, hr⟩, rfl⟩
  clear AT NI NT
  rcases hr with ⟨hf, rfl⟩ | ⟨p, s2, rfl, hp, hf⟩
  · rw [hs] at hf; cases hf
  · have p1 : decide ((0 : Int) ≤ (p : Int)) = true := decide_eq_true (by omega)
    clear hs hp hf
    go_wp2_with fail
    go_ret
    exact ⟨rfl, rfl⟩
section
variable {w W : World} {g dg r lg rg g' dg' r' m' i' : Nat} {d : Ds} {L : List (List UInt8)} {K : List Sk} {d' : Ds} {L' : List (List UInt8)} {K' : List Sk}
theorem kAdd_bytes {K : List Sk} {x : Rk} (hx : x.ok) : kAdd K (bytesR x) = followL K x := by
  unfold kAdd
  rw [recR_bytes hx]
/-- A fresh row of bytes stays while the document's journal turns. -/
theorem PP.stays (h : PP w W g dg r lg rg g' dg' r' m' i' d L K d' L' K') {W2 : World} {A : Option Addr} {n c : Nat} {xs : List UInt8} (o : Own W.heap.size W2 A n c xs) : ∀ s, Ot (fun i => Rp dg' r' m' i' i ∨ i = g') W2 s → Bs s A n c xs := fun s k =>
  o.bs.ot22 k (fun a ha h0 q => by
    have f1 := own_far23 o a ha
    have f2 := (h.rlow a.block q).1
    omega)
set_option maxHeartbeats 8000000 in
theorem PP.radd_ok (h : PP w W g dg r lg rg g' dg' r' m' i' d L K d' L' K') (hL : L'.length ≤ 64) (ok : OkS K') (hK : K'.length ≤ 500) {a i t : Nat} (ha : a < 8) (hi : i ≤ 1000000) (ht : t ≤ 1000000) (hs : findS K' (i : Int) = none) :
    Calls Try.prog 31 #[.pointer (some ⟨rg, 0, none⟩), .int .i64 (a : Int), .int .i64 (i : Int), .int .i64 (t : Int)] W fun e W' => e = .returned (.int .i64 (d'.jE L'.length (bytesR ⟨1, a, i, t⟩))) ∧ PP w W' g dg r lg rg g' dg' r' m' i' d L K (d'.jD L'.length (bytesR ⟨1, a, i, t⟩)) (d'.jL L' (bytesR ⟨1, a, i, t⟩)) (if d'.jE L'.length (bytesR ⟨1, a, i, t⟩) = 0 then followL K' ⟨1, a, i, t⟩ else K') ∧ Ko W W' := by
  have NI := Lib.hid (fun W : World => rtime23_calls (w := W) (n := (i : Int)))
  have NT := Lib.hid (fun W : World => rtime23_calls (w := W) (n := (t : Int)))
  rw [numB_nat hi] at NI
  rw [numB_nat ht] at NT
  obtain ⟨lo, hl⟩ := h.rled
  have AT := Lib.hid (rat23_calls hl (by omega) (id := (i : Int)))
  have RC : Hid (∀ s, Calls Try.prog 62 #[.int .u8 1, .int .i64 (a : Int), .int .i64 (i : Int), .int .i64 (t : Int)] s (RetOwn (bytesR ⟨1, a, i, t⟩) s)) := fun s => rrecord23_calls (k := 1) (by omega) (by omega) (by omega) (by omega)
  have KA : Hid (kAdd K' (bytesR ⟨1, a, i, t⟩) = followL K' ⟨1, a, i, t⟩) := kAdd_bytes ⟨.inl rfl, ha, hi, ht⟩
  have bl := bytesR_len ⟨1, a, i, t⟩
  have u1 : decide ((a : Int) < 0) = false := decide_eq_false (by omega)
  have u2 : decide ((7 : Int) < (a : Int)) = false := decide_eq_false (by omega)
  replace h := Lib.hid h
  generalize bytesR ⟨1, a, i, t⟩ = bb at *
  generalize followL K' ⟨1, a, i, t⟩ = KF at *
  obtain ⟨ee, hee⟩ : ∃ q, q = d'.jE L'.length bb := ⟨_, rfl⟩
  rw [← hee]
  replace hee := Lib.hid hee
  obtain ⟨KZ, hKZ⟩ : ∃ q, q = (if ee = 0 then KF else K') := ⟨_, rfl⟩
  rw [← hKZ]
  have Z0 : Hid (ee = 0 → KZ = kAdd K' bb) := fun q => by rw [hKZ, if_pos q, KA.out]
  have Z1 : Hid (ee ≠ 0 → KZ = K') := fun q => by rw [hKZ, if_neg q]
  clear hKZ KA
  replace ok := Lib.hid ok
  clear hl
  go_enter Try.func31, Try.ntmps31
  go_wp2_with fail
  refine (NI.out _).mono ?_
  rintro e w2 ⟨rfl, rfl⟩
  go_wp2_with fail
  refine (NT.out _).mono ?_
  rintro e w3 ⟨rfl, rfl⟩
  go_wp2_with fail
  refine AT.out.mono ?_
  rintro e w4 ⟨⟨rr, rfl, hr⟩, rfl⟩
  clear AT NI NT
  rcases hr with ⟨_, rfl⟩ | ⟨p, s2, rfl, hp, hf⟩
  · clear hs
    go_wp2_with fail
    refine (RC.out _).mono ?_
    rintro e w5 ⟨A2, n2, c2, rfl, o2, x2⟩
    obtain rfl : n2 = 10 := by rw [← o2.len, bl]
    have H5 := h.out.ext x2
    obtain ⟨lo5, hl5⟩ := H5.rled
    have c0 := hl5.cell0
    have AP := H5.rapp hL (h.out.stays o2)
    rw [← hee.out] at AP
    have AP := Lib.hid AP
    have E5 := Lib.hid (Ko.of_ext x2)
    clear RC o2 x2 H5 hl5 h
    go_wp2_with fail
    refine AP.out.mono ?_
    rintro e w6 ⟨rfl, p6, k6, b6⟩
    clear AP c0
    by_cases he : ee = 0
    · have he' : (ee == 0) = true := beq_iff_eq.2 he
      have TK := Lib.hid (p6.rtake ok.out hK b6)
      have K6 := Lib.hid (E5.out.trans k6)
      rw [← Z0.out he] at TK
      replace he := Lib.hid he
      clear p6 k6 b6 E5 Z0 Z1
      go_wp2_with fail
      refine TK.out.mono ?_
      rintro e w7 ⟨rfl, p7, k7⟩
      have F := Lib.hid (And.intro p7 (K6.out.trans k7))
      clear TK K6 p7 k7
      go_wp2_with fail
      go_ret
      exact ⟨rfl, F.out.1, F.out.2⟩
    · have he' : (ee == 0) = false := beq_eq_false_iff_ne.2 he
      rw [← Z1.out he] at p6
      have F := Lib.hid (And.intro p6 (E5.out.trans k6))
      replace he := Lib.hid he
      clear p6 k6 b6 E5 Z0 Z1
      go_wp2_with fail
      go_ret
      exact ⟨rfl, F.out.1, F.out.2⟩
  · rw [hs] at hf; cases hf
end
end Go.Proofs.Yteaoacinhdjkeaa
end

section
/-
  The document's Clear.
-/
namespace Go.Proofs.Yteaoacinhdjkeaa
open Go.ChangeShapes Go.WideShapes Go.ChangeAt Go.RowKit Go.Deep Go.Maps
set_option maxRecDepth 100000

set_option maxHeartbeats 4000000 in
theorem rclear_bad {w : World} {v : Value} {i t : Int} (h : numB23 i = false ∨ numB23 t = false) :
    Calls Try.prog 33 #[v, .int .i64 i, .int .i64 t] w fun e w' => e = .returned (.int .i64 1) ∧ w' = w := by
  have NI := Lib.hid (fun W : World => rtime23_calls (w := W) (n := i))
  have NT := Lib.hid (fun W : World => rtime23_calls (w := W) (n := t))
  generalize numB23 i = bi at *
  generalize numB23 t = bt_ at *
  replace h := Lib.hid h
  go_enter Try.func33, Try.ntmps33
  go_wp2_with fail
  refine (NI.out _).mono ?_
  rintro e w2 ⟨rfl, rfl⟩
  cases bi with
  | false =>
    go_wp2_with fail
    go_ret
    exact ⟨rfl, rfl⟩
  | true =>
    go_wp2_with fail
    refine (NT.out _).mono ?_
    rintro e w3 ⟨rfl, rfl⟩
    cases bt_ with
    | false =>
      go_wp2_with fail
      go_ret
      exact ⟨rfl, rfl⟩
    | true => exact absurd h.out (by simp)
set_option maxHeartbeats 4000000 in
theorem rclear_no {w : World} {lo : Nat → Prop} {rg g : Nat} {K : List Sk} (h : RL lo w rg g K) (hK : K.length ≤ 1000) {i t : Nat} (hi : i ≤ 1000000) (ht : t ≤ 1000000) (hs : ∀ s, findS K (i : Int) = some s → s.rev = true) :
    Calls Try.prog 33 #[.pointer (some ⟨rg, 0, none⟩), .int .i64 (i : Int), .int .i64 (t : Int)] w fun e w' => e = .returned (.int .i64 (if (findS K (i : Int)).isSome then 5 else 7)) ∧ w' = w := by
  have NI := Lib.hid (fun W : World => rtime23_calls (w := W) (n := (i : Int)))
  have NT := Lib.hid (fun W : World => rtime23_calls (w := W) (n := (t : Int)))
  rw [numB_nat hi] at NI
  rw [numB_nat ht] at NT
  have AT := Lib.hid (rat23_calls h hK (id := (i : Int)))
  have LA := Lib.hid (fun (k : Nat) (s : Sk) (q : K[k]? = some s) => h.at q)
  clear h
  replace hs := Lib.hid hs
  generalize findS K (i : Int) = oo at *
  obtain ⟨EE, hEE⟩ : ∃ q : Int, q = (if oo.isSome = true then 5 else 7) := ⟨_, rfl⟩
  rw [← hEE]
  replace hEE := Lib.hid hEE
  go_enter Try.func33, Try.ntmps33
  go_wp2_with fail
  refine (NI.out _).mono ?_
  rintro e w2 ⟨rfl, rfl⟩
  go_wp2_with fail
  refine (NT.out _).mono ?_
  rintro e w3 ⟨rfl, rfl⟩
  go_wp2_with fail
  refine AT.out.mono ?_
  rintro e w4 ⟨⟨r, rfl, hr⟩, rfl⟩
  clear AT NI NT
  rcases hr with ⟨rfl, rfl⟩ | ⟨k, s, rfl, hk, rfl⟩
  · obtain rfl : EE = 7 := hEE.out
    clear LA hs
    go_wp2_with fail
    go_ret
    exact ⟨rfl, rfl⟩
  · obtain rfl : EE = 5 := hEE.out
    obtain ⟨b, off, n, c, h1, -, h3, h4, hc⟩ := LA.out k s hk
    have kn : (k : Int) < (n : Int) := by omega
    have l1 : decide ((k : Int) < 0) = false := decide_eq_false (by omega)
    obtain ⟨q1, q2⟩ := hc w4 (Ext.refl _)
    have q3 := q2 3 (.bool true) (by rw [← hs.out s rfl]; rfl)
    clear LA hk hc q2 hs
    go_wp2_with fail
    go_ret
    exact ⟨rfl, rfl⟩
section
variable {w W : World} {g dg r lg rg g' dg' r' m' i' : Nat} {d : Ds} {L : List (List UInt8)} {K : List Sk} {d' : Ds} {L' : List (List UInt8)} {K' : List Sk}
set_option maxHeartbeats 8000000 in
theorem PP.rclear_ok (h : PP w W g dg r lg rg g' dg' r' m' i' d L K d' L' K') (hL : L'.length ≤ 64) (ok : OkS K') (hK : K'.length ≤ 500) {i t : Nat} (hi : i ≤ 1000000) (ht : t ≤ 1000000) {s : Sk} (hs : findS K' (i : Int) = some s) (hrev : s.rev = false) :
    Calls Try.prog 33 #[.pointer (some ⟨rg, 0, none⟩), .int .i64 (i : Int), .int .i64 (t : Int)] W fun e W' => e = .returned (.int .i64 (d'.jE L'.length (bytesR ⟨2, s.acc, i, t⟩))) ∧ PP w W' g dg r lg rg g' dg' r' m' i' d L K (d'.jD L'.length (bytesR ⟨2, s.acc, i, t⟩)) (d'.jL L' (bytesR ⟨2, s.acc, i, t⟩)) (if d'.jE L'.length (bytesR ⟨2, s.acc, i, t⟩) = 0 then followL K' ⟨2, s.acc, i, t⟩ else K') ∧ Ko W W' := by
  have NI := Lib.hid (fun W : World => rtime23_calls (w := W) (n := (i : Int)))
  have NT := Lib.hid (fun W : World => rtime23_calls (w := W) (n := (t : Int)))
  rw [numB_nat hi] at NI
  rw [numB_nat ht] at NT
  obtain ⟨lo, hl⟩ := h.rled
  have AT := Lib.hid (rat23_calls hl (by omega) (id := (i : Int)))
  have LA := Lib.hid (fun (k : Nat) (s : Sk) (q : K'[k]? = some s) => hl.at q)
  have ha := (ok.ok s (findS_some hs).1).1
  have RC : Hid (∀ w, Calls Try.prog 62 #[.int .u8 2, .int .i64 (s.acc : Int), .int .i64 (i : Int), .int .i64 (t : Int)] w (RetOwn (bytesR ⟨2, s.acc, i, t⟩) w)) := fun w => rrecord23_calls (k := 2) (by omega) (by omega) (by omega) (by omega)
  have KA : Hid (kAdd K' (bytesR ⟨2, s.acc, i, t⟩) = followL K' ⟨2, s.acc, i, t⟩) := kAdd_bytes ⟨.inr rfl, ha, hi, ht⟩
  have bl := bytesR_len ⟨2, s.acc, i, t⟩
  replace h := Lib.hid h
  generalize bytesR ⟨2, s.acc, i, t⟩ = bb at *
  generalize followL K' ⟨2, s.acc, i, t⟩ = KF at *
  obtain ⟨ee, hee⟩ : ∃ q, q = d'.jE L'.length bb := ⟨_, rfl⟩
  rw [← hee]
  replace hee := Lib.hid hee
  obtain ⟨KZ, hKZ⟩ : ∃ q, q = (if ee = 0 then KF else K') := ⟨_, rfl⟩
  rw [← hKZ]
  have Z0 : Hid (ee = 0 → KZ = kAdd K' bb) := fun q => by rw [hKZ, if_pos q, KA.out]
  have Z1 : Hid (ee ≠ 0 → KZ = K') := fun q => by rw [hKZ, if_neg q]
  clear hKZ KA
  replace ok := Lib.hid ok
  replace hs := Lib.hid hs
  clear hl
  go_enter Try.func33, Try.ntmps33
  go_wp2_with fail
  refine (NI.out _).mono ?_
  rintro e w2 ⟨rfl, rfl⟩
  go_wp2_with fail
  refine (NT.out _).mono ?_
  rintro e w3 ⟨rfl, rfl⟩
  go_wp2_with fail
  refine AT.out.mono ?_
  rintro e w4 ⟨⟨rr, rfl, hr⟩, rfl⟩
  clear AT NI NT
  rcases hr with ⟨hf, rfl⟩ | ⟨k, s2, rfl, hk, hf⟩
  · rw [hs.out] at hf; cases hf
  · obtain rfl : s = s2 := Option.some.inj (hs.out.symm.trans hf)
    obtain ⟨b, off, n, c, h1, -, h3, h4, hc⟩ := LA.out k s hk
    have kn : (k : Int) < (n : Int) := by omega
    have l1 : decide ((k : Int) < 0) = false := decide_eq_false (by omega)
    obtain ⟨q1, q2⟩ := hc w4 (Ext.refl _)
    have q3 := q2 3 (.bool false) (by rw [← hrev]; rfl)
    have q4 := q2 1 (.int .i64 (s.acc : Int)) rfl
    clear LA hk hc q2 hs hf hrev
    go_wp2_with fail
    refine (RC.out _).mono ?_
    rintro e w5 ⟨A2, n2, c2, rfl, o2, x2⟩
    obtain rfl : n2 = 10 := by rw [← o2.len, bl]
    have H5 := h.out.ext x2
    obtain ⟨lo5, hl5⟩ := H5.rled
    have c0 := hl5.cell0
    have AP := H5.rapp hL (h.out.stays o2)
    rw [← hee.out] at AP
    have AP := Lib.hid AP
    have E5 := Lib.hid (Ko.of_ext x2)
    clear RC o2 x2 H5 hl5 h q1 q3 q4
    go_wp2_with fail
    refine AP.out.mono ?_
    rintro e w6 ⟨rfl, p6, k6, b6⟩
    clear AP c0
    by_cases he : ee = 0
    · have he' : (ee == 0) = true := beq_iff_eq.2 he
      have TK := Lib.hid (p6.rtake ok.out hK b6)
      have K6 := Lib.hid (E5.out.trans k6)
      rw [← Z0.out he] at TK
      replace he := Lib.hid he
      clear p6 k6 b6 E5 Z0 Z1
      go_wp2_with fail
      refine TK.out.mono ?_
      rintro e w7 ⟨rfl, p7, k7⟩
      have F := Lib.hid (And.intro p7 (K6.out.trans k7))
      clear TK K6 p7 k7
      go_wp2_with fail
      go_ret
      exact ⟨rfl, F.out.1, F.out.2⟩
    · have he' : (ee == 0) = false := beq_eq_false_iff_ne.2 he
      rw [← Z1.out he] at p6
      have F := Lib.hid (And.intro p6 (E5.out.trans k6))
      replace he := Lib.hid he
      clear p6 k6 b6 E5 Z0 Z1
      go_wp2_with fail
      go_ret
      exact ⟨rfl, F.out.1, F.out.2⟩
end
end Go.Proofs.Yteaoacinhdjkeaa
end
