import Derived.Test.YteaoacinhdjkeaaPkG
section
/-
  Strikes: keep, Add, Clear.
-/
namespace Go.Proofs.Yteaoacinhdjkeaa
open Go.ChangeShapes Go.WideShapes Go.ChangeAt Go.RowKit Go.Deep Go.Maps
set_option maxRecDepth 100000

/-- A ledger of a journal: what it is made of. -/
structure SN (w W : World) (lg g dg r mb lb : Nat) (d : Ds) (B : Nat) (R : Nat → Prop) (D : Option Addr) (c : Nat) (L : List (List UInt8)) (K : List Sk) : Prop where
  jn : JN w W g dg r mb d B R D c L
  le : LG W lg g lb K
  nb : lb ≠ mb
  wl : w.heap.size ≤ lg
  wb : w.heap.size ≤ lb
/-- What a call of the ledger turns. -/
def Pl23 (g dg r mb lb : Nat) (o : Option Nat) (i : Nat) : Prop := Pj22 g dg r mb o i ∨ i = lb
theorem LG.stay {W W' : World} {lg g lb : Nat} {K : List Sk} (h : LG W lg g lb K) (h1 : W'.heap[lg]? = W.heap[lg]?) (h2 : W'.heap[lb]? = W.heap[lb]?) : LG W' lg g lb K := ⟨h1.trans h.cb, h.mp.stay h2, h.ok⟩
theorem own_far23 {B : Nat} {w : World} {A : Option Addr} {n c : Nat} {xs : List UInt8} (h : Own B w A n c xs) : ∀ a, A = some a → B ≤ a.block := fun a ha => by
  rcases h.2 with ⟨hv, _⟩ | ⟨g, cap, cur, hv, hb, _⟩
  · injection hv with q1
    rw [ha] at q1
    cases q1
  · injection hv with q1
    rw [ha] at q1
    injection q1 with q1
    rw [q1]
    exact hb
section
variable {w W W' : World} {lg g dg r mb lb : Nat} {d : Ds} {B : Nat} {R : Nat → Prop} {D : Option Addr} {c : Nat} {L : List (List UInt8)} {K : List Sk}
theorem SN.ext (h : SN w W lg g dg r mb lb d B R D c L K) (x : Ext W W') : SN w W' lg g dg r mb lb d B R D c L K := ⟨h.jn.ext x, h.le.ext x, h.nb, h.wl, h.wb⟩
theorem JN.lt (h : JN w W g dg r mb d B R D c L) : ∀ i, Pj22 g dg r mb (Value.ownBlock (.slice D L.length c)) i → i < W.heap.size := fun i q => by
  rcases q with q | q | q | q | q
  · rw [q]; exact h.dk.cb.lt
  · rw [q]; exact h.dk.row.lt
  · rw [q]; exact h.dk.mp.lt
  · rw [q]; exact heap_lt h.jk.1
  · exact (h.jk.2.1.ge i q).2
/-- The ledger's blocks are none of the journal's. -/
theorem SN.apart (h : SN w W lg g dg r mb lb d B R D c L K) : ∀ i, Pj22 g dg r mb (Value.ownBlock (.slice D L.length c)) i → i ≠ lg ∧ i ≠ lb := fun i q => by
  have l1 := h.le.cb
  obtain ⟨es, cl, l2⟩ := h.le.mp.obj
  obtain ⟨es2, cl2, m2⟩ := h.jn.dk.mp.obj
  have mo : ∀ cs t f, Obj.map es cl ≠ .cells cs t f := fun _ _ _ q => by cases q
  have nob : ∀ {t : TypeId} {C : List Value}, Cb W i t C → i ≠ lb := fun {t C} k e => by
    subst e
    unfold Cb at k
    rw [l2] at k
    cases k
  rcases q with q | q | q | q | q
  · subst q; exact ⟨fun e => cb_differ h.jn.dk.cb l1 (by decide) e, nob h.jn.dk.cb⟩
  · subst q; exact ⟨fun e => cb_differ h.jn.dk.row l1 (by decide) e, nob h.jn.dk.row⟩
  · subst q
    refine ⟨fun e => ?_, fun e => h.nb e.symm⟩
    subst e
    unfold Cb at l1
    rw [m2] at l1
    cases l1
  · subst q; exact ⟨fun e => cb_differ h.jn.jk.1 l1 (by decide) e, nob h.jn.jk.1⟩
  · refine ⟨fun e => ?_, fun e => ?_⟩
    · subst e; exact h.jn.jk.2.1.ne_of l1 (by decide) q
    · subst e; exact h.jn.jk.2.1.ne_obj l2 mo q
/-- The ledger's map turns. -/
theorem SN.led (h : SN w W lg g dg r mb lb d B R D c L K) {K' : List Sk} (k : Ot (fun i => i = lb) W W') (l : LG W' lg g lb K') : SN w W' lg g dg r mb lb d B R D c L K' := by
  obtain ⟨es, cl, l2⟩ := h.le.mp.obj
  have ap := h.apart
  have hwb := h.wb
  refine ⟨⟨h.jn.jk.ot k (fun q => (ap g (.inr (.inr (.inr (.inl rfl))))).2 q) (fun i q q2 => (ap i (.inr (.inr (.inr (.inr q2))))).2 q) (fun i q => ?_), ?_, h.jn.rR, fun i q => Nat.lt_of_lt_of_le (h.jn.rw i q) k.size, h.jn.wB, h.jn.wd, h.jn.wr, h.jn.wm, Ot.ext h.jn.ex k fun i q => by omega⟩, l, h.nb, h.wl, h.wb⟩
  · subst q
    exact .inr fun j x => no_cell l2 (fun _ _ _ q => by cases q) j _
  · exact h.jn.dk.stay (k.same h.jn.dk.cb.lt (ap _ (.inl rfl)).2) (k.same h.jn.dk.row.lt (ap _ (.inr (.inl rfl))).2) (k.same h.jn.dk.mp.lt (ap _ (.inr (.inr (.inl rfl)))).2)
/-- The journal turns, the ledger stays. -/
theorem SN.jour (h : SN w W lg g dg r mb lb d B R D c L K) {mb' : Nat} {d' : Ds} {D' : Option Addr} {c' : Nat} {L' : List (List UInt8)} (j : JN w W' g dg r mb' d' B R D' c' L') (k : Ot (Pj22 g dg r mb (Value.ownBlock (.slice D L.length c))) W W') (hm : mb' = mb ∨ W.heap.size ≤ mb') : SN w W' lg g dg r mb' lb d' B R D' c' L' K := by
  have ap := h.apart
  have := h.le.mp.lt
  have := h.nb
  exact ⟨j, h.le.stay (k.same h.le.cb.lt fun q => (ap _ q).1 rfl) (k.same h.le.mp.lt fun q => (ap _ q).2 rfl), by omega, h.wl, h.wb⟩
/-- Append, with what it tells of the map. -/
theorem JN.append23 (h : JN w W g dg r mb d B R D c L) {A : Option Addr} {n c' : Nat} {xs : List UInt8} (hL : L.length ≤ 64) (hM : ∀ s, Ot (Pd22 dg r mb) W s → Bs s A n c' xs) (hn : n ≤ 1000000) :
    Calls Try.prog 16 #[.pointer (some ⟨g, 0, none⟩), .slice A n c'] W fun e W' => e = .returned (.int .i64 (d.jE L.length xs)) ∧ ∃ mb' D' c2, JN w W' g dg r mb' (d.jD L.length xs) B R D' c2 (d.jL L xs) ∧ Ot (Pj22 g dg r mb (Value.ownBlock (.slice D L.length c))) W W' ∧ (mb' = mb ∨ W.heap.size ≤ mb') ∧
      (Value.ownBlock (.slice D' (d.jL L xs).length c2) = Value.ownBlock (.slice D L.length c) ∨ ∃ i, Value.ownBlock (.slice D' (d.jL L xs).length c2) = some i ∧ W.heap.size ≤ i) := by
  refine (jappend_calls h.jk h.dk h.rR h.rw (Nat.le_of_lt (Nat.lt_of_le_of_lt h.jk.2.2 h.jk.1.lt)) hL hM hn).mono ?_
  rintro e W' ⟨he, mb', D', c2, dk, jk, ot, hmb, ho⟩
  have hwm : w.heap.size ≤ mb' := by
    rcases hmb with q | q
    · rw [q]; exact h.wm
    · exact Nat.le_trans h.ex.size q
  refine ⟨he, mb', D', c2, ⟨jk, dk, h.rR, fun i q => Nat.lt_of_lt_of_le (h.rw i q) ot.size, h.wB, h.wd, h.wr, hwm, Ot.ext h.ex ot fun i q => ?_⟩, ot, hmb, ho⟩
  have h1 := h.wd
  have h2 := h.wr
  have h3 := h.wm
  have h4 := h.wB
  have h5 := h.jk.2.2
  rcases q with q | q | q | q | q
  · omega
  · omega
  · omega
  · omega
  · have := (h.jk.2.1.ge _ q).1; omega
end
/-- What keep leaves. -/
def Kept (w W W' : World) (lg g dg r mb lb : Nat) (d : Ds) (B : Nat) (R : Nat → Prop) (D : Option Addr) (c : Nat) (L : List (List UInt8)) (K : List Sk) (x : Rk) : Prop :=
  ∃ mb' D' c', SN w W' lg g dg r mb' lb (d.jD L.length (bytesR x)) B R D' c' (d.jL L (bytesR x)) (if d.jE L.length (bytesR x) = 0 then followL K x else K) ∧ Ot (Pl23 g dg r mb lb (Value.ownBlock (.slice D L.length c))) W W' ∧
    (Value.ownBlock (.slice D' (d.jL L (bytesR x)).length c') = Value.ownBlock (.slice D L.length c) ∨ ∃ i, Value.ownBlock (.slice D' (d.jL L (bytesR x)).length c') = some i ∧ W.heap.size ≤ i) ∧ (mb' = mb ∨ W.heap.size ≤ mb')
set_option maxHeartbeats 4000000 in
theorem skeep_calls {w W : World} {lg g dg r mb lb : Nat} {d : Ds} {B : Nat} {R : Nat → Prop} {D : Option Addr} {c : Nat} {L : List (List UInt8)} {K : List Sk} (h : SN w W lg g dg r mb lb d B R D c L K) (hL : L.length ≤ 64) {x : Rk} (hx : x.ok) :
    Calls Try.prog 59 #[.pointer (some ⟨lg, 0, none⟩), .agg x.C.toArray] W fun e W' => e = .returned (.int .i64 (d.jE L.length (bytesR x))) ∧ Kept w W W' lg g dg r mb lb d B R D c L K x := by
  have BY : Hid (∀ s, Calls Try.prog 72 #[.agg x.C.toArray] s (RetOwn (bytesR x) s)) := fun s => sbytes_calls (by have h1 := hx.a; have h2 := hx.i; have h3 := hx.t; have h4 := hx.k; omega)
  have jlt := Lib.hid h.jn.lt
  have L_RC : x.C.length = 4 := rfl
  obtain ⟨RC, hRC⟩ : ∃ q, q = x.C := ⟨_, rfl⟩
  rw [← hRC] at BY L_RC ⊢
  have S_RC : RC.toArray.size = 4 := by rw [List.size_toArray, L_RC]
  obtain ⟨g3, hg3⟩ : ∃ q, q = W.heap.size := ⟨_, rfl⟩
  have B0 : Hid (Cb (W.alloc (.cells RC.toArray 124)) g3 124 RC ∧ Ext W (W.alloc (.cells RC.toArray 124))) := by rw [hg3]; exact ⟨Cb.new _ _ _, (Ext.refl W).alloc _⟩
  have SE : Hid (∀ s, Ext W s → SN w s lg g dg r mb lb d B R D c L K) := fun s e => h.ext e
  have FO : Hid (∀ s mb' d' D' c' L', SN w s lg g dg r mb' lb d' B R D' c' L' K → Calls Try.prog 70 #[.pointer (some ⟨lg, 0, none⟩), .agg RC.toArray] s fun e s' => e = .returned (.tuple #[]) ∧ SN w s' lg g dg r mb' lb d' B R D' c' L' (followL K x) ∧ Ot (fun i => i = lb) s s') := fun s mb' d' D' c' L' q => by
    rw [hRC]
    exact (sfollow_calls q.le hx).mono fun e s' z => ⟨z.1, q.led z.2.2 z.2.1, z.2.2⟩
  replace hRC := Lib.hid hRC
  obtain ⟨ee, hee⟩ : ∃ q, q = d.jE L.length (bytesR x) := ⟨_, rfl⟩
  rw [← hee]
  replace hee := Lib.hid hee
  have lbl := h.le.mp.lt
  clear h
  go_enter Try.func59, Try.ntmps59
  go_upto_region 1 with fail
  refine wp_gen (fun s => Cb s g3 124 RC ∧ Ext W s) B0.out ?_
  rw [← hg3]
  have wg3 : W.heap.size ≤ g3 := Nat.le_of_eq hg3.symm
  replace hg3 := Lib.hid hg3
  clear B0
  rintro w1 ⟨k3, x1⟩
  have n3 : Hid (¬ Pj22 g dg r mb (Value.ownBlock (.slice D L.length c)) g3) := fun q => by have := jlt.out g3 q; omega
  have S1 := SE.out w1.drew x1.drew
  have T1 : Hid (∀ s, Ot (Pj22 g dg r mb (Value.ownBlock (.slice D L.length c))) w1.drew s → s.cell? ⟨lg, 0, none⟩ = some (.pointer (some ⟨g, 0, none⟩)) ∧ Cb s g3 124 RC) := fun s e => by
    refine ⟨?_, e.block (k3.ext (Ext.refl w1).drew) n3.out⟩
    have a : Cb s lg 121 [.pointer (some ⟨g, 0, none⟩), .map (some lb)] := e.block S1.le.cb (fun q => (S1.apart _ q).1 rfl)
    exact a.cell rfl
  have X1 : Hid (Ext W w1.drew) := x1.drew
  have BY1 := Lib.hid (BY.out w1.drew)
  replace S1 := Lib.hid S1
  clear k3 x1 BY SE
  refine qgR (R := Ot (Pj22 g dg r mb (Value.ownBlock (.slice D L.length c)))) (Ot.refl _) (fun _ _ _ => Ot.trans) [0, 1, 2, 3, 4, 5, 6, 7] [5, 6] ?_
  generalize w1.drew = V at *
  clear w1
  iterate 4 ((first | refine qR _ (fun w' e => (T1.out w' e).1) ?_ | refine qS ?_); go_frame)
  refine qV rfl (fun w' => w'.heap[g3]? = some (.cells RC.toArray 124 (0, 0))) (fun w' e => (T1.out w' e).2) (.agg RC.toArray) (fun w' hF => exec_load_row rfl rfl hF rfl rfl (by rw [S_RC]; rfl)) ?_
  go_frame
  refine qD fun K_ hK => ?_
  go_simp
  refine BY1.out.mono ?_
  rintro e w2 ⟨A2, n2, c2, rfl, o2, x2⟩
  refine hK.out _ _ (Ot.of_ext x2) ?_
  clear hK K_
  try go_frame
  have S2 := S1.out.ext x2
  obtain rfl : n2 = 10 := by rw [← o2.len, bytesR_len]
  have AP := Lib.hid (S2.jn.append23 hL (A := A2) (n := 10) (c' := c2) (xs := bytesR x) (fun s k => o2.bs.ot22 k (fun a ha h0 q => by
    have f1 := own_far23 o2 a ha
    have f2 := pd_lt S1.out.jn.dk a.block q
    omega)) (by omega))
  rw [← hee.out] at AP
  replace S2 := Lib.hid S2
  have t2 : Hid (Ot (Pj22 g dg r mb (Value.ownBlock (.slice D L.length c))) V w2) := Ot.of_ext x2
  clear BY1 o2 x2 S1
  repeat ((first | refine qR0 ?_ | refine qS ?_); go_frame)
  refine qD fun K_ hK => ?_
  go_simp
  refine AP.out.mono ?_
  rintro e w3 ⟨rfl, mb3, D3, c3, j3, ot3, hm3, ho3⟩
  refine hK.out _ _ ot3 ?_
  clear hK K_
  try go_frame
  have S3 := Lib.hid (S2.out.jour j3 ot3 hm3)
  have t3 : Hid (Ot (Pj22 g dg r mb (Value.ownBlock (.slice D L.length c))) W w3) := (Ot.of_ext X1.out).trans (t2.out.trans ot3)
  have k33 := (T1.out w3 (t2.out.trans ot3)).2
  replace ho3 : Hid (Value.ownBlock (.slice D3 (d.jL L (bytesR x)).length c3) = Value.ownBlock (.slice D L.length c) ∨ ∃ i, Value.ownBlock (.slice D3 (d.jL L (bytesR x)).length c3) = some i ∧ W.heap.size ≤ i) := ho3.imp id fun ⟨i, q1, q2⟩ => ⟨i, q1, Nat.le_trans X1.out.size (Nat.le_trans t2.out.size q2)⟩
  replace hm3 : Hid (mb3 = mb ∨ W.heap.size ≤ mb3) := hm3.imp id fun q => Nat.le_trans X1.out.size (Nat.le_trans t2.out.size q)
  clear T1 AP S2 t2 j3 ot3 X1
  repeat ((first | refine qR0 ?_ | refine qS ?_); go_frame)
  refine seq_done ?_
  have FIN : Hid (∀ K', (K' = if ee = 0 then followL K x else K) → ∀ s, SN w s lg g dg r mb3 lb (d.jD L.length (bytesR x)) B R D3 c3 (d.jL L (bytesR x)) K' → Ot (fun i => i = lb) w3 s → Kept w W s lg g dg r mb lb d B R D c L K x) := fun K' hK' s q k =>
    ⟨mb3, D3, c3, by rw [← hee.out, ← hK']; exact q, (t3.out.mono fun i _ q => .inl q).trans (k.mono fun i _ q => .inr q), ho3.out, hm3.out⟩
  have FO3 := Lib.hid (FO.out w3 _ _ _ _ _ S3.out)
  clear FO t3 ho3 hm3
  by_cases he : ee = 0
  · subst he
    replace k33 := Lib.hid k33
    go_wp2_with ((with_reducible refine wpList_load_rowW (o := ⟨some 17, _, _, _, _, _⟩) ?_ 124 _ rfl g3 ?_ 124 RC.toArray (0, 0) _ ?_ Try.underlying124 ?_ ?_ ?_); (· rfl); (· rfl); (· exact k33.out); (· rfl); (· rw [S_RC]; rfl); go_frame)
    refine FO3.out.mono ?_
    rintro e w4 ⟨rfl, s4, k4⟩
    have F := Lib.hid (FIN.out _ (by simp) w4 s4 k4)
    clear FIN FO3 s4 k4
    go_wp2_with fail
    go_ret
    exact ⟨rfl, F.out⟩
  · have he' : (ee == 0) = false := beq_eq_false_iff_ne.2 he
    have F := Lib.hid (FIN.out _ (by rw [if_neg he]) w3 S3.out (Ot.refl _ _))
    clear FIN FO3
    go_wp2_with fail
    go_ret
    exact ⟨rfl, F.out⟩
end Go.Proofs.Yteaoacinhdjkeaa
end

section
/-
  Strikes: Add, Clear.
-/
namespace Go.Proofs.Yteaoacinhdjkeaa
open Go.ChangeShapes Go.WideShapes Go.ChangeAt Go.RowKit Go.Deep Go.Maps
set_option maxRecDepth 100000

theorem accB_nat {a : Nat} (h : a < 8) : accB23 (a : Int) = true := by unfold accB23; simp; omega
theorem numB_nat {a : Nat} (h : a ≤ 1000000) : numB23 (a : Int) = true := by unfold numB23; simp; omega
theorem rk1_built (a b c : Int) : Try.prog.built 124 [(0, .int .i64 1), (1, .int .i64 a), (2, .int .i64 b), (3, .int .i64 c)] = some #[.int .i64 1, .int .i64 a, .int .i64 b, .int .i64 c] := by kernel_rfl
theorem rk2_built (a b c : Int) : Try.prog.built 124 [(0, .int .i64 2), (1, .int .i64 a), (2, .int .i64 b), (3, .int .i64 c)] = some #[.int .i64 2, .int .i64 a, .int .i64 b, .int .i64 c] := by kernel_rfl
set_option maxHeartbeats 4000000 in
theorem sadd_bad {w : World} {v : Value} {a i t : Int} (h : accB23 a = false ∨ numB23 i = false ∨ numB23 t = false) :
    Calls Try.prog 30 #[v, .int .i64 a, .int .i64 i, .int .i64 t] w fun e w' => e = .returned (.int .i64 1) ∧ w' = w := by
  have AC := Lib.hid (fun W : World => sacc_calls (w := W) (n := a))
  have NI := Lib.hid (fun W : World => snum_calls (w := W) (n := i))
  have NT := Lib.hid (fun W : World => snum_calls (w := W) (n := t))
  generalize accB23 a = ba at *
  generalize numB23 i = bi at *
  generalize numB23 t = bt_ at *
  replace h := Lib.hid h
  go_enter Try.func30, Try.ntmps30
  go_wp2_with fail
  refine (AC.out _).mono ?_
  rintro e w1 ⟨rfl, rfl⟩
  cases ba with
  | false =>
    go_wp2_with fail
    go_ret
    exact ⟨rfl, rfl⟩
  | true =>
    go_wp2_with fail
    refine (NI.out _).mono ?_
    rintro e w2 ⟨rfl, rfl⟩
    cases bi with
    | false =>
      go_wp2_with fail
      go_ret
      exact ⟨rfl, rfl⟩
    | true =>
      go_wp2_with fail
      refine (NT.out _).mono ?_
      rintro e w3 ⟨rfl, rfl⟩
      cases bt_ with
      | false =>
        go_wp2_with fail
        go_ret
        exact ⟨rfl, rfl⟩
      | true => exact absurd h.out (by simp)
set_option maxHeartbeats 4000000 in
theorem sadd_twice {w : World} {lg g lb : Nat} {K : List Sk} (h : LG w lg g lb K) {a i t : Nat} (ha : a < 8) (hi : i ≤ 1000000) (ht : t ≤ 1000000) {s : Sk} (hs : findS K (i : Int) = some s) :
    Calls Try.prog 30 #[.pointer (some ⟨lg, 0, none⟩), .int .i64 (a : Int), .int .i64 (i : Int), .int .i64 (t : Int)] w fun e w' => e = .returned (.int .i64 9) ∧ Ext w w' := by
  have AC := Lib.hid (fun W : World => sacc_calls (w := W) (n := (a : Int)))
  have NI := Lib.hid (fun W : World => snum_calls (w := W) (n := (i : Int)))
  have NT := Lib.hid (fun W : World => snum_calls (w := W) (n := (t : Int)))
  rw [accB_nat ha] at AC
  rw [numB_nat hi] at NI
  rw [numB_nat ht] at NT
  have hal := sk_alloc
  have LK := h.look (id := (i : Int)) (by omega)
  rw [hs] at LK
  have c1 : w.cell? ⟨lg, 1, none⟩ = some (.map (some lb)) := h.cb.cell rfl
  clear h hs
  have L_V := valS_len (some s)
  have O_V := one_cells (valS_one (some s))
  generalize valS (some s) = VV at *
  have S_V : VV.toArray.size = 3 := by rw [List.size_toArray, L_V]
  have S_Z : zSk.toArray.size = 3 := rfl
  generalize zSk = ZZ at *
  have K1 : Hid (Ext w ((w.alloc (.cells ZZ.toArray 117)).setRow w.heap.size VV.toArray)) := Ext.newRow _ _ _
  go_enter Try.func30, Try.ntmps30
  go_wp2_with fail
  refine (AC.out _).mono ?_
  rintro e w1 ⟨rfl, rfl⟩
  go_wp2_with fail
  refine (NI.out _).mono ?_
  rintro e w2 ⟨rfl, rfl⟩
  go_wp2_with fail
  refine (NT.out _).mono ?_
  rintro e w3 ⟨rfl, rfl⟩
  clear AC NI NT
  go_wp2_with (first
    | (refine wpList_lookup_mp rfl _ _ rfl rfl rfl LK ?_; go_frame)
    | (refine wpList_store_row rfl 117 _ _ rfl _ VV.toArray rfl rfl 117 ZZ.toArray (heap_alloc_new _ _) (by rw [S_V]; rfl) (by rw [S_V, S_Z]) O_V ?_; simp only [Act.put]))
  go_ret
  exact ⟨rfl, K1.out⟩
set_option maxHeartbeats 4000000 in
theorem sadd_ok {w W : World} {lg g dg r mb lb : Nat} {d : Ds} {B : Nat} {R : Nat → Prop} {D : Option Addr} {c : Nat} {L : List (List UInt8)} {K : List Sk} (h : SN w W lg g dg r mb lb d B R D c L K) (hL : L.length ≤ 64) {a i t : Nat} (ha : a < 8) (hi : i ≤ 1000000) (ht : t ≤ 1000000) (hs : findS K (i : Int) = none) :
    Calls Try.prog 30 #[.pointer (some ⟨lg, 0, none⟩), .int .i64 (a : Int), .int .i64 (i : Int), .int .i64 (t : Int)] W fun e W' => e = .returned (.int .i64 (d.jE L.length (bytesR ⟨1, a, i, t⟩))) ∧ ∃ W1, Ext W W1 ∧ Kept w W1 W' lg g dg r mb lb d B R D c L K ⟨1, a, i, t⟩ := by
  have AC := Lib.hid (fun W : World => sacc_calls (w := W) (n := (a : Int)))
  have NI := Lib.hid (fun W : World => snum_calls (w := W) (n := (i : Int)))
  have NT := Lib.hid (fun W : World => snum_calls (w := W) (n := (t : Int)))
  rw [accB_nat ha] at AC
  rw [numB_nat hi] at NI
  rw [numB_nat ht] at NT
  have hal := sk_alloc
  have LK := h.le.look (id := (i : Int)) (by omega)
  rw [hs] at LK
  have c1 : W.cell? ⟨lg, 1, none⟩ = some (.map (some lb)) := h.le.cb.cell rfl
  have KP : Hid (∀ s, Ext W s → Calls Try.prog 59 #[.pointer (some ⟨lg, 0, none⟩), .agg #[.int .i64 1, .int .i64 (a : Int), .int .i64 (i : Int), .int .i64 (t : Int)]] s fun e W' => e = .returned (.int .i64 (d.jE L.length (bytesR ⟨1, a, i, t⟩))) ∧ Kept w s W' lg g dg r mb lb d B R D c L K ⟨1, a, i, t⟩) := fun s e => skeep_calls (h.ext e) hL (x := ⟨1, a, i, t⟩) ⟨.inl rfl, ha, hi, ht⟩
  have BS := Lib.hid (rk1_built (a : Int) (i : Int) (t : Int))
  clear h hs
  generalize d.jE L.length (bytesR ⟨1, a, i, t⟩) = ee at *
  have S_Z : zSk.toArray.size = 3 := rfl
  have O_Z := one_cells (valS_one none)
  rw [show valS none = zSk from rfl] at LK O_Z
  generalize zSk = ZZ at *
  have K1 : Hid (Ext W ((W.alloc (.cells ZZ.toArray 117)).setRow W.heap.size ZZ.toArray)) := Ext.newRow _ _ _
  go_enter Try.func30, Try.ntmps30
  go_wp2_with fail
  refine (AC.out _).mono ?_
  rintro e w1 ⟨rfl, rfl⟩
  go_wp2_with fail
  refine (NI.out _).mono ?_
  rintro e w2 ⟨rfl, rfl⟩
  go_wp2_with fail
  refine (NT.out _).mono ?_
  rintro e w3 ⟨rfl, rfl⟩
  clear AC NI NT
  go_upto_region 6 with (first
    | (refine wpList_lookup_mp rfl _ _ rfl rfl rfl LK ?_; go_frame)
    | (refine wpList_store_row rfl 117 _ _ rfl _ ZZ.toArray rfl rfl 117 ZZ.toArray (heap_alloc_new _ _) (by rw [S_Z]; rfl) (by rw [S_Z]) O_Z ?_; simp only [Act.put]))
  refine wp_gen (fun s => Ext w3 s) K1.out ?_
  clear K1 c1 LK
  intro w4 x4
  have KP4 := Lib.hid (KP.out w4 x4)
  replace x4 := Lib.hid x4
  clear KP
  go_wp2_with (refine wpList_build_as rfl _ _ rfl #[.int .i64 1, .int .i64 (a : Int), .int .i64 (i : Int), .int .i64 (t : Int)] (by simp only [List.map_toArray, List.map_cons, List.map_nil]; exact BS.out) ?_; go_frame)
  refine KP4.out.mono ?_
  rintro e w5 ⟨rfl, k5⟩
  replace k5 := Lib.hid k5
  clear KP4
  go_wp2_with fail
  go_ret
  exact ⟨rfl, w4, x4.out, k5.out⟩
end Go.Proofs.Yteaoacinhdjkeaa
end

section
/-
  Strikes: Clear.
-/
namespace Go.Proofs.Yteaoacinhdjkeaa
open Go.ChangeShapes Go.WideShapes Go.ChangeAt Go.RowKit Go.Deep Go.Maps
set_option maxRecDepth 100000

set_option maxHeartbeats 4000000 in
theorem sclear_bad {w : World} {v : Value} {i t : Int} (h : numB23 i = false ∨ numB23 t = false) :
    Calls Try.prog 32 #[v, .int .i64 i, .int .i64 t] w fun e w' => e = .returned (.int .i64 1) ∧ w' = w := by
  have NI := Lib.hid (fun W : World => snum_calls (w := W) (n := i))
  have NT := Lib.hid (fun W : World => snum_calls (w := W) (n := t))
  generalize numB23 i = bi at *
  generalize numB23 t = bt_ at *
  replace h := Lib.hid h
  go_enter Try.func32, Try.ntmps32
  go_wp2_with fail
  refine (NI.out _).mono ?_
  rintro e w2 ⟨rfl, rfl⟩
  cases bi with
  | false =>
    go_wp2_with fail
    go_ret
    exact ⟨rfl, rfl⟩
  | true =>
    go_wp2_with fail
    refine (NT.out _).mono ?_
    rintro e w3 ⟨rfl, rfl⟩
    cases bt_ with
    | false =>
      go_wp2_with fail
      go_ret
      exact ⟨rfl, rfl⟩
    | true => exact absurd h.out (by simp)
set_option maxHeartbeats 4000000 in
theorem sclear_no {w : World} {lg g lb : Nat} {K : List Sk} (h : LG w lg g lb K) {i t : Nat} (hi : i ≤ 1000000) (ht : t ≤ 1000000) (hs : ∀ s, findS K (i : Int) = some s → s.rev = true) :
    Calls Try.prog 32 #[.pointer (some ⟨lg, 0, none⟩), .int .i64 (i : Int), .int .i64 (t : Int)] w fun e w' => e = .returned (.int .i64 (if (findS K (i : Int)).isSome then 5 else 7)) ∧ Ext w w' := by
  have NI := Lib.hid (fun W : World => snum_calls (w := W) (n := (i : Int)))
  have NT := Lib.hid (fun W : World => snum_calls (w := W) (n := (t : Int)))
  rw [numB_nat hi] at NI
  rw [numB_nat ht] at NT
  have hal := sk_alloc
  have LK := h.look (id := (i : Int)) (by omega)
  have c1 : w.cell? ⟨lg, 1, none⟩ = some (.map (some lb)) := h.cb.cell rfl
  clear h
  generalize findS K (i : Int) = oo at *
  have L_V := valS_len oo
  have O_V := one_cells (valS_one oo)
  have hV : Hid (∀ s, oo = some s → (valS oo)[2]? = some (.bool true)) := fun s q => by
    have := hs s q
    rw [q]
    show some (Value.bool s.rev) = _
    rw [this]
  obtain ⟨VV, hVV⟩ : ∃ q, q = valS oo := ⟨_, rfl⟩
  rw [← hVV] at LK L_V O_V hV
  clear hVV hs
  have S_V : VV.toArray.size = 3 := by rw [List.size_toArray, L_V]
  have S_Z : zSk.toArray.size = 3 := rfl
  generalize zSk = ZZ at *
  have K1 : Hid (Cb ((w.alloc (.cells ZZ.toArray 117)).setRow w.heap.size VV.toArray) w.heap.size 117 VV ∧ Ext w ((w.alloc (.cells ZZ.toArray 117)).setRow w.heap.size VV.toArray)) := ⟨(Cb.new w _ ZZ).set, Ext.newRow _ _ _⟩
  go_enter Try.func32, Try.ntmps32
  go_wp2_with fail
  refine (NI.out _).mono ?_
  rintro e w2 ⟨rfl, rfl⟩
  go_wp2_with fail
  refine (NT.out _).mono ?_
  rintro e w3 ⟨rfl, rfl⟩
  clear NI NT
  cases oo with
  | none =>
    go_wp2_with (first
      | (refine wpList_lookup_mp rfl _ _ rfl rfl rfl LK ?_; go_frame)
      | (refine wpList_store_row rfl 117 _ _ rfl _ VV.toArray rfl rfl 117 ZZ.toArray (heap_alloc_new _ _) (by rw [S_V]; rfl) (by rw [S_V, S_Z]) O_V ?_; simp only [Act.put]))
    go_ret
    exact ⟨rfl, K1.out.2⟩
  | some s =>
    have v2 := Lib.hid (hV.out s rfl)
    clear hV
    go_upto_region 6 with (first
      | (refine wpList_lookup_mp rfl _ _ rfl rfl rfl LK ?_; go_frame)
      | (refine wpList_store_row rfl 117 _ _ rfl _ VV.toArray rfl rfl 117 ZZ.toArray (heap_alloc_new _ _) (by rw [S_V]; rfl) (by rw [S_V, S_Z]) O_V ?_; simp only [Act.put]))
    refine wp_gen (fun W => Cb W w3.heap.size 117 VV ∧ Ext w3 W) K1.out ?_
    clear K1 c1 LK
    generalize w3.heap.size = g7 at *
    rintro w4 ⟨k4, x4⟩
    have c2 := k4.cell v2.out
    replace k4 := Lib.hid k4
    replace x4 := Lib.hid x4
    go_wp2_with fail
    go_ret
    exact ⟨rfl, x4.out⟩
set_option maxHeartbeats 4000000 in
theorem sclear_ok {w W : World} {lg g dg r mb lb : Nat} {d : Ds} {B : Nat} {R : Nat → Prop} {D : Option Addr} {c : Nat} {L : List (List UInt8)} {K : List Sk} (h : SN w W lg g dg r mb lb d B R D c L K) (hL : L.length ≤ 64) {i t : Nat} (hi : i ≤ 1000000) (ht : t ≤ 1000000) {s : Sk} (hs : findS K (i : Int) = some s) (hrev : s.rev = false) :
    Calls Try.prog 32 #[.pointer (some ⟨lg, 0, none⟩), .int .i64 (i : Int), .int .i64 (t : Int)] W fun e W' => e = .returned (.int .i64 (d.jE L.length (bytesR ⟨2, s.acc, i, t⟩))) ∧ ∃ W1, Ext W W1 ∧ Kept w W1 W' lg g dg r mb lb d B R D c L K ⟨2, s.acc, i, t⟩ := by
  have NI := Lib.hid (fun W : World => snum_calls (w := W) (n := (i : Int)))
  have NT := Lib.hid (fun W : World => snum_calls (w := W) (n := (t : Int)))
  rw [numB_nat hi] at NI
  rw [numB_nat ht] at NT
  have hal := sk_alloc
  have LK := h.le.look (id := (i : Int)) (by omega)
  rw [hs] at LK
  have hsa := (h.le.ok.ok s (findS_some hs).1).1
  have c1 : W.cell? ⟨lg, 1, none⟩ = some (.map (some lb)) := h.le.cb.cell rfl
  have KP : Hid (∀ z, Ext W z → Calls Try.prog 59 #[.pointer (some ⟨lg, 0, none⟩), .agg #[.int .i64 2, .int .i64 (s.acc : Int), .int .i64 (i : Int), .int .i64 (t : Int)]] z fun e W' => e = .returned (.int .i64 (d.jE L.length (bytesR ⟨2, s.acc, i, t⟩))) ∧ Kept w z W' lg g dg r mb lb d B R D c L K ⟨2, s.acc, i, t⟩) := fun z e => skeep_calls (h.ext e) hL (x := ⟨2, s.acc, i, t⟩) ⟨.inr rfl, hsa, hi, ht⟩
  have BS := Lib.hid (rk2_built (s.acc : Int) (i : Int) (t : Int))
  clear h hs
  generalize d.jE L.length (bytesR ⟨2, s.acc, i, t⟩) = ee at *
  have L_V := valS_len (some s)
  have O_V := one_cells (valS_one (some s))
  have hV : Hid ((valS (some s))[0]? = some (.int .i64 (s.acc : Int)) ∧ (valS (some s))[2]? = some (.bool false)) := ⟨rfl, by
    show some (Value.bool s.rev) = _
    rw [hrev]⟩
  obtain ⟨VV, hVV⟩ : ∃ q, q = valS (some s) := ⟨_, rfl⟩
  rw [← hVV] at LK L_V O_V hV
  clear hVV hrev
  have S_V : VV.toArray.size = 3 := by rw [List.size_toArray, L_V]
  have S_Z : zSk.toArray.size = 3 := rfl
  generalize zSk = ZZ at *
  have K1 : Hid (Cb ((W.alloc (.cells ZZ.toArray 117)).setRow W.heap.size VV.toArray) W.heap.size 117 VV ∧ Ext W ((W.alloc (.cells ZZ.toArray 117)).setRow W.heap.size VV.toArray)) := ⟨(Cb.new W _ ZZ).set, Ext.newRow _ _ _⟩
  go_enter Try.func32, Try.ntmps32
  go_wp2_with fail
  refine (NI.out _).mono ?_
  rintro e w2 ⟨rfl, rfl⟩
  go_wp2_with fail
  refine (NT.out _).mono ?_
  rintro e w3 ⟨rfl, rfl⟩
  clear NI NT
  go_upto_region 6 with (first
    | (refine wpList_lookup_mp rfl _ _ rfl rfl rfl LK ?_; go_frame)
    | (refine wpList_store_row rfl 117 _ _ rfl _ VV.toArray rfl rfl 117 ZZ.toArray (heap_alloc_new _ _) (by rw [S_V]; rfl) (by rw [S_V, S_Z]) O_V ?_; simp only [Act.put]))
  refine wp_gen (fun z => Cb z w3.heap.size 117 VV ∧ Ext w3 z) K1.out ?_
  clear K1 c1 LK
  generalize w3.heap.size = g7 at *
  rintro w4 ⟨k4, x4⟩
  have q0 := k4.cell hV.out.1
  have q2 := k4.cell hV.out.2
  have KP4 := Lib.hid (KP.out w4 x4)
  replace x4 := Lib.hid x4
  replace k4 := Lib.hid k4
  clear KP
  go_wp2_with (refine wpList_build_as rfl _ _ rfl #[.int .i64 2, .int .i64 (s.acc : Int), .int .i64 (i : Int), .int .i64 (t : Int)] (by simp only [List.map_toArray, List.map_cons, List.map_nil]; exact BS.out) ?_; go_frame)
  refine KP4.out.mono ?_
  rintro e w5 ⟨rfl, k5⟩
  replace k5 := Lib.hid k5
  clear KP4
  go_wp2_with fail
  go_ret
  exact ⟨rfl, w4, x4.out, k5.out⟩
end Go.Proofs.Yteaoacinhdjkeaa
end
