import Derived.Test.YteaoacinhdjkeaaPkB
import Derived.Test.YteaoacinhdjkeaaBase
import Derived.Deep.Matrix
import Derived.Test.YteaoacinhdjkeaaPkK
import Derived.DeepKeys2
import Derived.Deep.Slices
section
/-
  The two ledgers: all is opened anew.
-/
namespace Go.Proofs.Yteaoacinhdjkeaa
open Go.ChangeShapes Go.WideShapes Go.ChangeAt Go.RowKit Go.Deep Go.Maps
set_option maxRecDepth 100000

set_option maxHeartbeats 4000000 in
/-- begun, with what is forbidden to the records' bytes. -/
theorem begun_callsR {w W : World} {dg r mb : Nat} {d : Ds} (h : DK W dg r mb d) (x : Ext w W) (wd : w.heap.size ≤ dg) (wr : w.heap.size ≤ r) (wm : w.heap.size ≤ mb) :
    Calls Try.prog 28 #[.pointer (some ⟨dg, 0, none⟩)] W fun e W' => ∃ g lg lb D c, e = .returned (.tuple #[.pointer (some ⟨g, 0, none⟩), .pointer (some ⟨lg, 0, none⟩)]) ∧ SN w W' lg g dg r mb lb d W.heap.size (fun i => i < W.heap.size) D c d.recs (kOf d.recs) ∧ Ext W W' := by
  have OP := Lib.hid (JN.opened h x wd wr wm)
  have SH := Lib.hid (Sh22.recs h.ok)
  have mlt := h.mp.lt
  clear h x
  go_enter Try.func28, Try.ntmps28
  go_wp2_with fail
  refine OP.out.mono ?_
  rintro e w1 ⟨g, D, c, rfl, j1, x1⟩
  have SO := Lib.hid (sopen_calls j1.jk (by have := SH.out.1; omega) (fun k hk => Nat.le_trans (SH.out.2 k hk) (by decide)))
  have s1 := x1.size
  have s2 := j1.ex.size
  replace j1 := Lib.hid j1
  replace x1 := Lib.hid x1
  clear OP SH
  go_wp2_with fail
  refine SO.out.mono ?_
  rintro e w2 ⟨lg, lb, rfl, l2, q1, q2, x2⟩
  have F : Hid (SN w w2 lg g dg r mb lb d W.heap.size (fun i => i < W.heap.size) D c d.recs (kOf d.recs) ∧ Ext W w2) := ⟨⟨j1.out.ext x2, l2, by omega, by omega, by omega⟩, x1.out.trans x2⟩
  clear SO l2 q1 q2 x2 j1 x1
  go_wp2_with fail
  go_ret2
  exact ⟨g, lg, lb, D, c, rfl, F.out.1, F.out.2⟩
/-- The program's journal and ledger, and the document's disk. -/
def Q1 (w W : World) (g dg r lg dg' r' m' i' : Nat) (d : Ds) (L : List (List UInt8)) (K : List Sk) : Prop :=
  ∃ mb lb B R D c X, SN w W lg g dg r mb lb d B R D c L K ∧ RD W dg' r' m' i' d X ∧ R r' ∧ R m' ∧ w.heap.size ≤ dg' ∧ w.heap.size ≤ r' ∧ w.heap.size ≤ m' ∧ w.heap.size ≤ i'
/-- The document's journal too. -/
def Q2 (w W : World) (g dg r lg g' dg' r' m' i' : Nat) (d : Ds) (L : List (List UInt8)) (K : List Sk) (L' : List (List UInt8)) : Prop :=
  ∃ mb lb B R D c B' R' D' c' X, PJ w W g dg r g' dg' r' m' i' d L d L' mb B R D c B' R' D' c' X ∧ LG W lg g lb K ∧ lb ≠ mb ∧ w.heap.size ≤ lg ∧ w.heap.size ≤ lb
section
variable {w W : World} {g dg r lg rg g' dg' r' m' i' : Nat} {d : Ds} {L : List (List UInt8)} {K : List Sk} {d' : Ds} {L' : List (List UInt8)} {K' : List Sk}
theorem PP.pd2 (h : PP w W g dg r lg rg g' dg' r' m' i' d L K d L' K') : ∃ mb X, Pd2 w W dg r mb dg' r' m' i' d X := by
  obtain ⟨mb, lb, B, R, D, c, B', R', D', c2, X, h⟩ := h
  have P := h.pj
  exact ⟨mb, X, P.jn.dk, P.jn.ex, P.rd, P.jn.wd, P.jn.wr, P.jn.wm, P.l1, P.l2, P.l3, P.l4⟩
theorem Pd2.begun {mb : Nat} {X : List (List UInt8)} (h : Pd2 w W dg r mb dg' r' m' i' d X) : Calls Try.prog 28 #[.pointer (some ⟨dg, 0, none⟩)] W fun e W' => ∃ g lg, e = .returned (.tuple #[.pointer (some ⟨g, 0, none⟩), .pointer (some ⟨lg, 0, none⟩)]) ∧ Q1 w W' g dg r lg dg' r' m' i' d d.recs (kOf d.recs) ∧ Ext W W' := by
  refine (begun_callsR h.dk h.ex h.a1 h.a2 h.a3).mono ?_
  rintro e W' ⟨g, lg, lb, D, c, he, sn, x⟩
  exact ⟨g, lg, he, ⟨mb, lb, _, _, D, c, X, sn, h.rd.ext x, h.rd.sr.lt, h.rd.nr.lt, h.l1, h.l2, h.l3, h.l4⟩, x⟩
theorem Q1.ropn (h : Q1 w W g dg r lg dg' r' m' i' d L K) : Calls Try.prog 15 #[.pointer (some ⟨dg', 0, none⟩)] W fun e W' => ∃ g2, e = .returned (.tuple #[.pointer (some ⟨g2, 0, none⟩), .int .i64 0]) ∧ Q2 w W' g dg r lg g2 dg' r' m' i' d L K d.recs ∧ Ext W W' := by
  obtain ⟨mb, lb, B, R, D, c, X, sn, rd, R1, R2, l1, l2, l3, l4⟩ := h
  have jn := sn.jn
  refine (rjopen_calls rd).mono ?_
  rintro e W' ⟨g2, D2, c3, he, j2, x⟩
  have ow := j2.toS (R := fun i => i < W.heap.size) (fun _ q => q)
  have lo := ow.2.1.ge
  have ln := jn.jk.2.1.ge
  refine ⟨g2, he, ⟨mb, lb, B, R, D, c, _, fun i => i < W.heap.size, D2, c3, X, ⟨jn.ext x, rd.ext x, ow, R1, R2, jn.dk.row.lt, rd.sr.lt, rd.nr.lt, fun i q => (ln i q).2, fun i q => Nat.lt_of_lt_of_le q x.size, fun i q q2 => ?_, l1, l2, l3, l4, jn.ex.size⟩, sn.le.ext x, sn.nb, sn.wl, sn.wb⟩, x⟩
  have := (lo i q).1
  have := (ln i q2).2
  omega
theorem PP.rcells (h : PP w W g dg r lg rg g' dg' r' m' i' d L K d' L' K') : ∃ D c, ∀ s, Ext W s → s.cell? ⟨g', 1, none⟩ = some (.slice D L'.length c) ∧ Rw s D L'.length c L' := by
  obtain ⟨mb, lb, B, R, D, c, B', R', D', c2, X, h⟩ := h
  exact ⟨D', c2, fun s x => ⟨(h.pj.rs.1.ext x).cell rfl, (h.pj.rs.2.1.ext x).rw⟩⟩
theorem kOf_len (L : List (List UInt8)) : (kOf L).length ≤ L.length := by
  have : ∀ (L : List (List UInt8)) (K : List Sk), (L.foldl kAdd K).length ≤ K.length + L.length := by
    intro L
    induction L with
    | nil => intro K; exact Nat.le_refl _
    | cons x L ih =>
      intro K
      have h1 := ih (kAdd K x)
      have h2 : (kAdd K x).length ≤ K.length + 1 := by
        unfold kAdd
        split
        · unfold followL revS
          split
          · split <;> simp
          · split
            · split <;> simp
            · omega
        · omega
      rw [List.foldl_cons, List.length_cons]
      omega
  have := this L []
  simpa [kOf] using this
theorem rled_built (a : Value) : Try.prog.built 114 [(0, a)] = Try.prog.built 114 [(0, a)] := rfl
theorem rled_built1 (g : Nat) : Try.prog.built 114 [(0, .pointer (some ⟨g, 0, none⟩))] = some #[.pointer (some ⟨g, 0, none⟩), .slice none 0 0] := by kernel_rfl
set_option maxHeartbeats 8000000 in
theorem Q2.ropen (h : Q2 w W g dg r lg g' dg' r' m' i' d L K L') (sh : Sh22 L') : Calls Try.prog 29 #[.pointer (some ⟨g', 0, none⟩)] W fun e W' => ∃ rg, e = .returned (.pointer (some ⟨rg, 0, none⟩)) ∧ PP w W' g dg r lg rg g' dg' r' m' i' d L K d L' (kOf L') ∧ Ko W W' := by
  obtain ⟨rg, hrg⟩ : ∃ q, q = W.heap.size := ⟨_, rfl⟩
  have B0 : Hid (PP w (W.alloc (.cells #[.pointer (some ⟨g', 0, none⟩), .slice none 0 0] 114)) g dg r lg rg g' dg' r' m' i' d L K d L' (kOf (L'.take 0)) ∧ Ko W (W.alloc (.cells #[.pointer (some ⟨g', 0, none⟩), .slice none 0 0] 114))) := by
    obtain ⟨mb, lb, B, R, D, c, B', R', D', c', X, pj, le, nb, wl, wb⟩ := h
    have x : Ext W (W.alloc (.cells #[.pointer (some ⟨g', 0, none⟩), .slice none 0 0] 114)) := (Ext.refl W).alloc _
    have cb := Cb.new W 114 [.pointer (some ⟨g', 0, none⟩), .slice none 0 0]
    have ws := pj.jn.ex.size
    refine ⟨⟨mb, lb, B, R, D, c, B', R', D', c', X, pj.ext x, le.ext x, nb, wl, wb, ⟨none, 0, 0, by rw [hrg]; exact cb, ⟨⟨rfl, fun x q => by cases q⟩, ⟨Nat.le_refl _, Nat.zero_le _⟩, fun z => absurd z (by omega)⟩, fun z => absurd z (by omega)⟩, by omega⟩, Ko.of_ext x⟩
  clear h
  have BT := Lib.hid (rled_built1 g')
  replace sh := Lib.hid sh
  have s64 := sh.out.1
  go_enter Try.func29, Try.ntmps29
  go_upto_region 2 with (refine wpList_build_as rfl _ _ rfl #[.pointer (some ⟨g', 0, none⟩), .slice none 0 0] (by simp only [List.map_toArray, List.map_cons, List.map_nil]; exact BT.out) ?_; go_frame)
  refine wp_gen (fun s => PP w s g dg r lg rg g' dg' r' m' i' d L K d L' (kOf (L'.take 0)) ∧ Ko W s) B0.out ?_
  rw [← hrg]
  replace hrg := Lib.hid hrg
  clear B0 BT
  rintro w1 ⟨p1, k1⟩
  replace p1 := Lib.hid p1
  replace k1 := Lib.hid k1
  go_wp2_with fail
  go_loopw [4] (fun v wr => ∃ j : Nat, j ≤ L'.length ∧ v = .int .i64 (j : Int) ∧ PP w wr g dg r lg rg g' dg' r' m' i' d L K d L' (kOf (L'.take j)) ∧ Ko W wr) (fun v _ => L'.length - (intOf v).toNat)
  case atStart => exact ⟨0, Nat.zero_le _, rfl, p1.out, k1.out⟩
  case round =>
    clear p1 k1
    obtain ⟨j, hj, rfl, pj, kj⟩ := hrel
    obtain ⟨D, c, hc⟩ := pj.rcells
    obtain ⟨c1, rw1⟩ := hc wr (Ext.refl _)
    by_cases hlt : j < L'.length
    · obtain ⟨b, off, rfl, hb, hr⟩ := rw1.pos (by omega)
      obtain ⟨A', n', c', e1, bs⟩ := hr j hlt
      have l1 : decide ((j : Int) < (L'.length : Int)) = true := decide_eq_true (by omega)
      have l2 : (j : Int) < (L'.length : Int) := by omega
      have TK := pj.rtake (kOf_ok _) (by have := kOf_len (L'.take j); rw [List.length_take] at this; omega) bs
      have e : kAdd (kOf (L'.take j)) (L'.getD j []) = kOf (L'.take (j + 1)) := by
        rw [List.take_succ_eq_append_getElem hlt, kOf_snoc, List.getD_eq_getElem?_getD, List.getElem?_eq_getElem hlt, Option.getD_some]
      rw [e] at TK
      have k1 : IntKind.i64.wrap ((j : Int) + 1) = ((j + 1 : Nat) : Int) := (IntWalk.i64_in _ (by omega)).trans (by omega)
      replace TK := Lib.hid TK
      replace kj := Lib.hid kj
      clear e hc rw1 hr bs pj
      go_wp2_with fail
      refine TK.out.mono ?_
      rintro e w2 ⟨rfl, p2, k2⟩
      have F := Lib.hid (And.intro p2 (kj.out.trans k2))
      clear TK kj p2 k2 c1 e1
      go_wp2_with fail
      go_roundw
      case rel => exact ⟨j + 1, by omega, by go_num, F.out.1, F.out.2⟩
      case measure => simp [intOf]; omega
    · obtain rfl : j = L'.length := by omega
      have l1 : decide ((L'.length : Int) < (L'.length : Int)) = false := decide_eq_false (by omega)
      rw [List.take_length] at pj
      have F := Lib.hid (And.intro pj kj)
      clear hc rw1 pj kj
      go_wp2_with fail
      go_ret
      exact ⟨rg, rfl, F.out⟩
end
end Go.Proofs.Yteaoacinhdjkeaa
end

section
/-
  The two ledgers: Add and Clear of any numbers.
-/
namespace Go.Proofs.Yteaoacinhdjkeaa
open Go.ChangeShapes Go.WideShapes Go.ChangeAt Go.RowKit Go.Deep Go.Maps
set_option maxRecDepth 100000

/-- A record is kept: the number, the disk, the records, the strikes. -/
def keepX (d : Ds) (L : List (List UInt8)) (K : List Sk) (x : Rk) : Int × Ds × List (List UInt8) × List Sk :=
  (d.jE L.length (bytesR x), d.jD L.length (bytesR x), d.jL L (bytesR x), if d.jE L.length (bytesR x) = 0 then followL K x else K)
def addX (d : Ds) (L : List (List UInt8)) (K : List Sk) (a i t : Int) : Int × Ds × List (List UInt8) × List Sk :=
  if accB23 a = true ∧ numB23 i = true ∧ numB23 t = true then (if (findS K i).isSome then (9, d, L, K) else keepX d L K ⟨1, a.toNat, i.toNat, t.toNat⟩) else (1, d, L, K)
def clearX (d : Ds) (L : List (List UInt8)) (K : List Sk) (i t : Int) : Int × Ds × List (List UInt8) × List Sk :=
  if numB23 i = true ∧ numB23 t = true then (match findS K i with | none => (7, d, L, K) | some s => if s.rev then (5, d, L, K) else keepX d L K ⟨2, s.acc, i.toNat, t.toNat⟩) else (1, d, L, K)
/-- What every answer leaves well. -/
def Wl23 (Z : Int × Ds × List (List UInt8) × List Sk) : Prop := OkS Z.2.2.2 ∧ Sh22 Z.2.2.1 ∧ Z.2.2.2.length ≤ Z.2.2.1.length
theorem Wl23.keep {d : Ds} {L : List (List UInt8)} {K : List Sk} (ok : d.ok) (sh : Sh22 L) (hk : OkS K) (hl : K.length ≤ L.length) {x : Rk} (hx : x.ok) : Wl23 (keepX d L K x) := by
  refine ⟨?_, sh.jL ok _, ?_⟩
  · show OkS (if d.jE L.length (bytesR x) = 0 then followL K x else K)
    split
    · exact hk.follow ⟨hx.a, hx.i, hx.t⟩
    · exact hk
  · show (if d.jE L.length (bytesR x) = 0 then followL K x else K).length ≤ (d.jL L (bytesR x)).length
    unfold Ds.jL
    split
    · have : (followL K x).length ≤ K.length + 1 := by
        unfold followL revS
        split
        · split <;> simp
        · split
          · split <;> simp
          · omega
      rw [List.length_append]
      simp only [List.length_cons, List.length_nil]
      omega
    · exact hl
theorem accB_of {a : Int} (h : accB23 a = true) : ∃ n : Nat, a = (n : Int) ∧ n < 8 := by
  unfold accB23 at h
  simp at h
  exact ⟨a.toNat, by omega, by omega⟩
theorem numB_of {a : Int} (h : numB23 a = true) : ∃ n : Nat, a = (n : Int) ∧ n ≤ 1000000 := by
  unfold numB23 at h
  simp at h
  exact ⟨a.toNat, by omega, by omega⟩
theorem Wl23.add {d : Ds} {L : List (List UInt8)} {K : List Sk} (ok : d.ok) (sh : Sh22 L) (hk : OkS K) (hl : K.length ≤ L.length) (a i t : Int) : Wl23 (addX d L K a i t) := by
  unfold addX
  split
  · rename_i q
    obtain ⟨n, rfl, hn⟩ := accB_of q.1
    obtain ⟨m, rfl, hm⟩ := numB_of q.2.1
    obtain ⟨p, rfl, hp⟩ := numB_of q.2.2
    split
    · exact ⟨hk, sh, hl⟩
    · exact Wl23.keep ok sh hk hl ⟨.inl rfl, by simpa using hn, by simpa using hm, by simpa using hp⟩
  · exact ⟨hk, sh, hl⟩
theorem Wl23.clear {d : Ds} {L : List (List UInt8)} {K : List Sk} (ok : d.ok) (sh : Sh22 L) (hk : OkS K) (hl : K.length ≤ L.length) (i t : Int) : Wl23 (clearX d L K i t) := by
  unfold clearX
  split
  · rename_i q
    obtain ⟨m, rfl, hm⟩ := numB_of q.1
    obtain ⟨p, rfl, hp⟩ := numB_of q.2
    split
    · exact ⟨hk, sh, hl⟩
    · rename_i s hs
      split
      · exact ⟨hk, sh, hl⟩
      · exact Wl23.keep ok sh hk hl ⟨.inr rfl, (hk.ok s (findS_some hs).1).1, by simpa using hm, by simpa using hp⟩
  · exact ⟨hk, sh, hl⟩
section
variable {w W : World} {g dg r lg rg g' dg' r' m' i' : Nat} {d : Ds} {L : List (List UInt8)} {K : List Sk} {d' : Ds} {L' : List (List UInt8)} {K' : List Sk}
theorem not_and3 {a b c : Bool} (h : ¬ (a = true ∧ b = true ∧ c = true)) : a = false ∨ b = false ∨ c = false := by
  cases a <;> cases b <;> cases c <;> simp_all
theorem not_and2 {a b : Bool} (h : ¬ (a = true ∧ b = true)) : a = false ∨ b = false := by
  cases a <;> cases b <;> simp_all
theorem PP.padd (h : PP w W g dg r lg rg g' dg' r' m' i' d L K d' L' K') (hL : L.length ≤ 64) (a i t : Int) :
    Calls Try.prog 30 #[.pointer (some ⟨lg, 0, none⟩), .int .i64 a, .int .i64 i, .int .i64 t] W fun e W' => e = .returned (.int .i64 (addX d L K a i t).1) ∧ PP w W' g dg r lg rg g' dg' r' m' i' (addX d L K a i t).2.1 (addX d L K a i t).2.2.1 (addX d L K a i t).2.2.2 d' L' K' ∧ Ko W W' := by
  unfold addX
  by_cases q : accB23 a = true ∧ numB23 i = true ∧ numB23 t = true
  · rw [if_pos q]
    obtain ⟨n, rfl, hn⟩ := accB_of q.1
    obtain ⟨m, rfl, hm⟩ := numB_of q.2.1
    obtain ⟨p, rfl, hp⟩ := numB_of q.2.2
    cases hs : findS K (m : Int) with
    | some s =>
      obtain ⟨lb, l⟩ := h.pled
      exact (sadd_twice l hn hm hp hs).mono fun e W' z => ⟨z.1, h.ext z.2, Ko.of_ext z.2⟩
    | none => exact h.add_ok hL hn hm hp hs
  · rw [if_neg q]
    refine (sadd_bad (not_and3 q)).mono ?_
    rintro e W' ⟨he, rfl⟩
    exact ⟨he, h, Ko.of_ext (Ext.refl _)⟩
theorem PP.radd (h : PP w W g dg r lg rg g' dg' r' m' i' d L K d' L' K') (hL : L'.length ≤ 64) (ok : OkS K') (hK : K'.length ≤ 500) (a i t : Int) :
    Calls Try.prog 31 #[.pointer (some ⟨rg, 0, none⟩), .int .i64 a, .int .i64 i, .int .i64 t] W fun e W' => e = .returned (.int .i64 (addX d' L' K' a i t).1) ∧ PP w W' g dg r lg rg g' dg' r' m' i' d L K (addX d' L' K' a i t).2.1 (addX d' L' K' a i t).2.2.1 (addX d' L' K' a i t).2.2.2 ∧ Ko W W' := by
  unfold addX
  by_cases q : accB23 a = true ∧ numB23 i = true ∧ numB23 t = true
  · rw [if_pos q]
    obtain ⟨n, rfl, hn⟩ := accB_of q.1
    obtain ⟨m, rfl, hm⟩ := numB_of q.2.1
    obtain ⟨p, rfl, hp⟩ := numB_of q.2.2
    cases hs : findS K' (m : Int) with
    | some s =>
      obtain ⟨lo, l⟩ := h.rled
      refine (radd_twice l (by omega) hn hm hp hs).mono ?_
      rintro e W' ⟨he, rfl⟩
      exact ⟨he, h, Ko.of_ext (Ext.refl _)⟩
    | none => exact h.radd_ok hL ok hK hn hm hp hs
  · rw [if_neg q]
    refine (radd_bad (not_and3 q)).mono ?_
    rintro e W' ⟨he, rfl⟩
    exact ⟨he, h, Ko.of_ext (Ext.refl _)⟩
theorem PP.pclear (h : PP w W g dg r lg rg g' dg' r' m' i' d L K d' L' K') (hL : L.length ≤ 64) (i t : Int) :
    Calls Try.prog 32 #[.pointer (some ⟨lg, 0, none⟩), .int .i64 i, .int .i64 t] W fun e W' => e = .returned (.int .i64 (clearX d L K i t).1) ∧ PP w W' g dg r lg rg g' dg' r' m' i' (clearX d L K i t).2.1 (clearX d L K i t).2.2.1 (clearX d L K i t).2.2.2 d' L' K' ∧ Ko W W' := by
  unfold clearX
  by_cases q : numB23 i = true ∧ numB23 t = true
  · rw [if_pos q]
    obtain ⟨m, rfl, hm⟩ := numB_of q.1
    obtain ⟨p, rfl, hp⟩ := numB_of q.2
    obtain ⟨lb, l⟩ := h.pled
    cases hs : findS K (m : Int) with
    | none =>
      refine (sclear_no l hm hp (fun s z => by rw [hs] at z; cases z)).mono fun e W' z => ⟨?_, h.ext z.2, Ko.of_ext z.2⟩
      rw [z.1, hs]
      rfl
    | some s =>
      cases hr : s.rev with
      | true =>
        refine (sclear_no l hm hp (fun s2 z => by rw [hs] at z; rw [← Option.some.inj z]; exact hr)).mono fun e W' z => ?_
        simp only [hr, if_true]
        refine ⟨?_, h.ext z.2, Ko.of_ext z.2⟩
        rw [z.1, hs]
        rfl
      | false =>
        simp only [hr]
        exact h.clear_ok hL hm hp hs hr
  · rw [if_neg q]
    refine (sclear_bad (not_and2 q)).mono ?_
    rintro e W' ⟨he, rfl⟩
    exact ⟨he, h, Ko.of_ext (Ext.refl _)⟩
theorem PP.rclear (h : PP w W g dg r lg rg g' dg' r' m' i' d L K d' L' K') (hL : L'.length ≤ 64) (ok : OkS K') (hK : K'.length ≤ 500) (i t : Int) :
    Calls Try.prog 33 #[.pointer (some ⟨rg, 0, none⟩), .int .i64 i, .int .i64 t] W fun e W' => e = .returned (.int .i64 (clearX d' L' K' i t).1) ∧ PP w W' g dg r lg rg g' dg' r' m' i' d L K (clearX d' L' K' i t).2.1 (clearX d' L' K' i t).2.2.1 (clearX d' L' K' i t).2.2.2 ∧ Ko W W' := by
  unfold clearX
  by_cases q : numB23 i = true ∧ numB23 t = true
  · rw [if_pos q]
    obtain ⟨m, rfl, hm⟩ := numB_of q.1
    obtain ⟨p, rfl, hp⟩ := numB_of q.2
    obtain ⟨lo, l⟩ := h.rled
    cases hs : findS K' (m : Int) with
    | none =>
      refine (rclear_no l (by omega) hm hp (fun s z => by rw [hs] at z; cases z)).mono ?_
      rintro e W' ⟨he, rfl⟩
      refine ⟨?_, h, Ko.of_ext (Ext.refl _)⟩
      rw [he, hs]
      rfl
    | some s =>
      cases hr : s.rev with
      | true =>
        refine (rclear_no l (by omega) hm hp (fun s2 z => by rw [hs] at z; rw [← Option.some.inj z]; exact hr)).mono ?_
        rintro e W' ⟨he, rfl⟩
        simp only [hr, if_true]
        refine ⟨?_, h, Ko.of_ext (Ext.refl _)⟩
        rw [he, hs]
        rfl
      | false =>
        simp only [hr]
        exact h.rclear_ok hL ok hK hm hp hs hr
  · rw [if_neg q]
    refine (rclear_bad (not_and2 q)).mono ?_
    rintro e W' ⟨he, rfl⟩
    exact ⟨he, h, Ko.of_ext (Ext.refl _)⟩
end
end Go.Proofs.Yteaoacinhdjkeaa
end

section
/-
  How the arguments of the statements read: a slice of bytes, of slices of bytes, of numbers. No conditions.
-/
namespace Go.Proofs.Yteaoacinhdjkeaa
open Go.ChangeShapes Go.WideShapes Go.ChangeAt Go.RowKit Go.Deep

theorem bounds_i64 {a : Int} (h : (Lit.int .i64 a).wf = true) : -9223372036854775808 ≤ a ∧ a ≤ 9223372036854775807 := by
  simpa [Lit.wf, IntKind.min, IntKind.max, IntKind.signed, IntKind.bits] using h

section
variable {H : Type} {enc : TypeId × Value → H} {W : World} {P : Program}
theorem bs_of_trod {t e : TypeId} {a : Option Addr} {len cap : Nat} {d : DataW H} {p : List MemPlace} (ht : P.underlying t = some (.slice e)) (he : P.underlying e = some (.int .u8)) (hc : P.cellsOf e = 1)
    (h : DataW.Trod enc P W 0 (fun _ => true) true t (.slice a len cap) d p) : ∃ xs, Bs W a len cap xs := by
  obtain ⟨fuel, hf⟩ := h
  rcases open_ints ht he hc hf with ⟨hcs, _⟩ | ⟨x, l, c, zs, hcs, _, hl, hm, hz, _, hcell, hwz⟩
  · simp [Value.cells] at hcs
    obtain ⟨rfl, rfl, rfl⟩ := hcs
    exact ⟨[], Bs.nil W⟩
  · simp [Value.cells] at hcs
    obtain ⟨rfl, rfl, rfl⟩ := hcs
    exact bs_of_row (.inr ⟨_, rfl, hl, hm, by simpa using hz, hcell, hwz⟩)
end
end Go.Proofs.Yteaoacinhdjkeaa
end

section
/-
  How arguments read that are made of numbers, bools and slices of bytes, at whatever depth of structs and arrays; slices of such. No conditions.
-/
namespace Go.Proofs.Yteaoacinhdjkeaa
open Go.ChangeShapes Go.WideShapes Go.ChangeAt Go.RowKit Go.Deep
set_option maxRecDepth 100000

/-- What a cell may be. -/
inductive Lf where
  | i (k : IntKind)
  | b
  | s8
  deriving DecidableEq
def Fit1 (W : World) : Lf → Value → Prop
  | .i k, v => ∃ n, v = .int k n ∧ (Lit.int k n).wf = true
  | .b, v => ∃ x, v = .bool x
  | .s8, v => ∃ A n c xs, v = .slice A n c ∧ Bs W A n c xs
def FitL (W : World) : List Lf → List Value → Prop
  | [], [] => True
  | l :: ls, v :: vs => Fit1 W l v ∧ FitL W ls vs
  | _, _ => False
section
variable {W : World}
theorem FitL.app : ∀ {a b : List Lf} {x y : List Value}, FitL W a x → FitL W b y → FitL W (a ++ b) (x ++ y)
  | [], _, [], _, _, h => h
  | [], _, _ :: _, _, h, _ => h.elim
  | _ :: _, _, [], _, h, _ => h.elim
  | l :: a, _, v :: x, _, h, k => ⟨h.1, FitL.app h.2 k⟩
theorem FitL.flat : ∀ {A : List (List Lf)} {X : List (List Value)}, A.length = X.length → (∀ (i : Nat) (a : List Lf) (x : List Value), A[i]? = some a → X[i]? = some x → FitL W a x) → FitL W A.flatten X.flatten
  | [], [], _, _ => trivial
  | [], _ :: _, h, _ => by simp at h
  | _ :: _, [], h, _ => by simp at h
  | a :: A, x :: X, h, k => by
    rw [List.flatten_cons, List.flatten_cons]
    exact (k 0 a x rfl rfl).app (FitL.flat (by simpa using h) fun i a' x' h1 h2 => k (i + 1) a' x' h1 h2)
theorem FitL.part : ∀ {a b : List Lf} {cs : List Value}, FitL W (a ++ b) cs → ∃ x y, cs = x ++ y ∧ FitL W a x ∧ FitL W b y
  | [], _, cs, h => ⟨[], cs, rfl, trivial, h⟩
  | _ :: _, _, [], h => h.elim
  | l :: a, _, v :: cs, h => by
    obtain ⟨x, y, rfl, h1, h2⟩ := FitL.part h.2
    exact ⟨v :: x, y, rfl, ⟨h.1, h1⟩, h2⟩
theorem FitL.nil {cs : List Value} (h : FitL W [] cs) : cs = [] := by
  cases cs with
  | nil => rfl
  | cons v r => exact h.elim
theorem FitL.one {l : Lf} {ls : List Lf} {cs : List Value} (h : FitL W (l :: ls) cs) : ∃ v r, cs = v :: r ∧ Fit1 W l v ∧ FitL W ls r := by
  cases cs with
  | nil => exact h.elim
  | cons v r => exact ⟨v, r, rfl, h.1, h.2⟩
theorem FitL.int {ls : List Lf} {cs : List Value} (h : FitL W (.i .i64 :: ls) cs) : ∃ n r, cs = .int .i64 n :: r ∧ (-9223372036854775808 ≤ n ∧ n ≤ 9223372036854775807) ∧ FitL W ls r := by
  obtain ⟨v, r, rfl, ⟨n, rfl, w⟩, h'⟩ := h.one
  exact ⟨n, r, rfl, bounds_i64 w, h'⟩
theorem FitL.u64 {ls : List Lf} {cs : List Value} (h : FitL W (.i .u64 :: ls) cs) : ∃ (n : Nat) (r : List Value), cs = .int .u64 (n : Int) :: r ∧ n < 18446744073709551616 ∧ FitL W ls r := by
  obtain ⟨v, r, rfl, ⟨n, rfl, w⟩, h'⟩ := h.one
  obtain ⟨z, rfl, hz⟩ := nat_u64 w
  exact ⟨z, r, rfl, hz, h'⟩
theorem FitL.u8 {ls : List Lf} {cs : List Value} (h : FitL W (.i .u8 :: ls) cs) : ∃ (n : UInt8) (r : List Value), cs = .int .u8 (n.toNat : Int) :: r ∧ FitL W ls r := by
  obtain ⟨v, r, rfl, ⟨n, rfl, w⟩, h'⟩ := h.one
  have hb : 0 ≤ n ∧ n ≤ 255 := by simpa [Lit.wf, IntKind.min, IntKind.max, IntKind.signed, IntKind.bits] using w
  exact ⟨UInt8.ofNat n.toNat, r, by congr 2; simp; omega, h'⟩
theorem FitL.bool {ls : List Lf} {cs : List Value} (h : FitL W (.b :: ls) cs) : ∃ x r, cs = .bool x :: r ∧ FitL W ls r := by
  obtain ⟨v, r, rfl, ⟨n, rfl⟩, h'⟩ := h.one
  exact ⟨n, r, rfl, h'⟩
theorem FitL.bs {ls : List Lf} {cs : List Value} (h : FitL W (.s8 :: ls) cs) : ∃ A n c xs r, cs = .slice A n c :: r ∧ Bs W A n c xs ∧ FitL W ls r := by
  obtain ⟨v, r, rfl, ⟨A, n, c, xs, rfl, q⟩, h'⟩ := h.one
  exact ⟨A, n, c, xs, r, rfl, q, h'⟩
theorem FitL.bytes : ∀ {n : Nat} {cs : List Value}, FitL W (List.replicate n (.i .u8)) cs → ∃ xs : List UInt8, cs = cellsOf xs ∧ xs.length = n
  | 0, cs, h => ⟨[], FitL.nil h, rfl⟩
  | n + 1, cs, h => by
    rw [List.replicate_succ] at h
    obtain ⟨x, r, rfl, h'⟩ := h.u8
    obtain ⟨xs, rfl, l⟩ := FitL.bytes h'
    exact ⟨x :: xs, by rw [cellsOf_map, cellsOf_map]; rfl, by rw [List.length_cons, l]⟩
theorem FitL.key {ls : List Lf} {cs : List Value} (h : FitL W (List.replicate 32 (.i .u8) ++ ls) cs) : ∃ (xs : List UInt8) (r : List Value), cs = cellsOf xs ++ r ∧ xs.length = 32 ∧ FitL W ls r := by
  obtain ⟨x, y, rfl, h1, h2⟩ := h.part
  obtain ⟨xs, rfl, l⟩ := h1.bytes
  exact ⟨xs, y, rfl, l, h2⟩
end
/-- The cells of a type, where they all are numbers, bools, slices of bytes. -/
def leafs (P : Program) : Nat → TypeId → Option (List Lf)
  | 0, _ => none
  | d + 1, t =>
    match P.underlying t with
    | some .bool => some [.b]
    | some (.int k) => some [.i k]
    | some (.slice e) => (match P.underlying e with | some (.int .u8) => if P.cellsOf e = 1 then some [.s8] else none | _ => none)
    | some (.array n e) => if P.cellsOf t = n * P.cellsOf e then (leafs P d e).map fun l => (List.replicate n l).flatten else none
    | some (.struct fs) => if P.runs 0 fs.toList = some (P.cellsOf t) then (fs.toList.mapM fun f => leafs P d f.type).map List.flatten else none
    | _ => none
theorem mapM_at' {α β : Type} {f : α → Option β} : ∀ {l : List α} {r : List β}, l.mapM f = some r → l.length = r.length ∧ ∀ (i : Nat) (a : α) (b : β), l[i]? = some a → r[i]? = some b → f a = some b
  | [], r, h => by
    obtain rfl : [] = r := by simpa using h
    exact ⟨rfl, fun i a b h => by simp at h⟩
  | x :: l, r, h => by
    rw [List.mapM_cons] at h
    obtain ⟨y, hy, h⟩ := Option.bind_eq_some_iff.1 h
    obtain ⟨ys, hys, h⟩ := Option.bind_eq_some_iff.1 h
    obtain rfl : y :: ys = r := by simpa using h
    obtain ⟨h1, h2⟩ := mapM_at' hys
    refine ⟨by simp [h1], fun i a b ha hb => ?_⟩
    cases i with
    | zero => simp at ha hb; subst ha; subst hb; exact hy
    | succ i => exact h2 i a b (by simpa using ha) (by simpa using hb)
section
variable {H : Type} {enc : TypeId × Value → H} {W : World} {P : Program}
theorem fit_of_trod : ∀ {d : Nat} {t : TypeId} {ls : List Lf}, leafs P d t = some ls → ∀ {fuel : Nat} {cs : List Value} {x : DataW H × List MemPlace}, DataW.trod enc P W 0 (fun _ => true) true fuel t cs = some x → FitL W ls cs
  | 0, _, _, h, _, _, _, _ => by cases h
  | d + 1, t, ls, h, fuel, cs, x, hf => by
    unfold leafs at h
    split at h
    · rename_i hu
      obtain rfl := Option.some.inj h
      obtain ⟨b, rfl, _⟩ := DataW.trod_bool hu hf
      exact ⟨⟨b, rfl⟩, trivial⟩
    · rename_i k hu
      obtain rfl := Option.some.inj h
      obtain ⟨n, rfl, _, w⟩ := DataW.trod_int hu hf
      exact ⟨⟨n, rfl, w⟩, trivial⟩
    · rename_i e hu
      split at h
      · rename_i hue
        split at h
        · rename_i he
          obtain rfl := Option.some.inj h
          rcases open_ints hu hue he hf with ⟨hcs, _⟩ | ⟨a, l, c, zs, hcs, _, hl, hm, hz, _, hcell, hwz⟩
          · subst hcs
            exact ⟨⟨_, _, _, [], rfl, Bs.nil W⟩, trivial⟩
          · subst hcs
            obtain ⟨xs, q⟩ := bs_of_row (.inr ⟨_, rfl, hl, hm, by simpa using hz, hcell, hwz⟩)
            exact ⟨⟨_, _, _, xs, rfl, q⟩, trivial⟩
        · cases h
      · cases h
    · rename_i n e hu
      split at h
      · rename_i hc
        obtain ⟨l, hl, rfl⟩ := Option.map_eq_some_iff.1 h
        obtain ⟨xs, m, _, _, hlen, hxl, hg⟩ := DataW.trod_array hu hf
        rw [← chunks_flatten (P.cellsOf e) n cs (by rw [hlen, hc])]
        refine FitL.flat (by simp) fun i a y ha hy => ?_
        have hi : i < n := by
          have := (List.getElem?_eq_some_iff.1 ha).1
          simpa using this
        obtain rfl : l = a := by rw [List.getElem?_replicate, if_pos hi] at ha; exact Option.some.inj ha
        obtain rfl : (cs.drop (i * P.cellsOf e)).take (P.cellsOf e) = y := by
          rw [List.getElem?_map, List.getElem?_range hi] at hy
          exact Option.some.inj hy
        have := hg i hi
        rw [List.getElem?_eq_getElem (by omega)] at this
        exact fit_of_trod hl this
      · cases h
    · rename_i fs hu
      split at h
      · rename_i hr
        obtain ⟨ll, hl, rfl⟩ := Option.map_eq_some_iff.1 h
        obtain ⟨xs, m, _, _, hlen, hxl, hg⟩ := DataW.trod_struct hu hf
        have e := fields_flatten cs fs.toList 0 _ hr hlen
        rw [List.drop_zero] at e
        rw [← e]
        obtain ⟨h1, h2⟩ := mapM_at' hl
        refine FitL.flat (by rw [List.length_map]; exact h1.symm) fun i a y ha hy => ?_
        obtain ⟨f, hfi, rfl⟩ : ∃ f, fs.toList[i]? = some f ∧ (cs.drop f.offset).take (P.cellsOf f.type) = y := by
          rw [List.getElem?_map] at hy
          exact Option.map_eq_some_iff.1 hy
        have := hg i f (by rwa [Array.getElem?_toList] at hfi)
        have hi : i < xs.length := by
          have := (List.getElem?_eq_some_iff.1 hfi).1
          rw [hxl]; simpa using this
        rw [List.getElem?_eq_getElem hi] at this
        exact fit_of_trod (h2 i f a hfi ha) this
      · cases h
    · cases h
theorem leaf_of_trod {t : TypeId} {v : Value} {r : Reach} {b : Nat} {dt : DataW H} {p : List MemPlace} (d : Nat) {ls : List Lf} (hl : leafs P d t = some ls) (hw : (match P.underlying t with | some (.struct _) | some (.array _ _) => true | _ => false) = true)
    (hv : Value.okWide P W r b t v) (h : DataW.Trod enc P W 0 (fun _ => true) true t v dt p) : ∃ cs, v = .agg cs.toArray ∧ FitL W ls cs := by
  obtain ⟨fuel, hf⟩ := h
  obtain ⟨cs, rfl⟩ : ∃ cs : Array Value, v = .agg cs := by
    split at hw
    · rename_i fs hu
      obtain ⟨cs, q, _⟩ := okWide_struct hu hv
      exact ⟨cs, q⟩
    · rename_i n e hu
      simp only [Value.okWide, hu] at hv
      obtain ⟨cs, q, _⟩ := hv
      exact ⟨cs, q⟩
    · cases hw
  exact ⟨cs.toList, by rw [Array.toArray_toList], fit_of_trod hl hf⟩
theorem leafs_of_trod {t e : TypeId} {a : Option Addr} {len cap : Nat} {dt : DataW H} {p : List MemPlace} (ht : P.underlying t = some (.slice e)) (d : Nat) {ls : List Lf} (hl : leafs P d e = some ls) {s : Nat} (hs : P.cellsOf e = s) (s0 : 0 < s)
    (h : DataW.Trod enc P W 0 (fun _ => true) true t (.slice a len cap) dt p) : ∃ K, Cs W s a len cap K ∧ ∀ x ∈ K, FitL W ls x := by
  subst hs
  obtain ⟨fuel, hf⟩ := h
  rcases open_slice ht hf with ⟨hcs, _⟩ | ⟨x, l, c, m, n, D, Pl, hcs, _, hlc, hcm, hm, _, hr⟩
  · simp [Value.cells] at hcs
    obtain ⟨rfl, rfl, rfl⟩ := hcs
    exact ⟨[], ⟨⟨rfl, fun x hx => by cases hx⟩, ⟨Nat.le_refl _, Nat.zero_le _⟩, fun h => absurd h (by omega)⟩, fun x hx => by cases hx⟩
  · simp [Value.cells] at hcs
    obtain ⟨rfl, rfl, rfl⟩ := hcs
    simp only [if_true] at hm
    subst hm
    have each : ∀ i, i < len → ∃ cs', W.cells? 0 (x.add (i * P.cellsOf e)) (P.cellsOf e) = some cs' ∧ FitL W ls cs' := fun i hi => by
      obtain ⟨cs', h1, h2⟩ := hr i (by omega)
      exact ⟨cs', h1, fit_of_trod hl h2⟩
    have cell : ∀ {a : Addr} {k : Nat} {cs' : List Value}, W.cells? 0 a k = some cs' → cs'.length = k ∧ ∀ q v, cs'[q]? = some v → W.cell? (a.add q) = some v := fun {a k cs'} q => by
      unfold World.cells? at q
      rw [if_pos (Nat.zero_le _)] at q
      obtain ⟨h1, h2⟩ := mapM_at' q
      rw [List.length_range] at h1
      refine ⟨h1.symm, fun i v hv => h2 i i v ?_ hv⟩
      rw [List.getElem?_range (by rw [h1]; exact (List.getElem?_eq_some_iff.1 hv).1)]
    refine ⟨(List.range len).map fun r => if h : r < len then (each r h).choose else [], ⟨⟨by simp, fun y hy => ?_⟩, ⟨hlc, hcm⟩, fun h0 => ?_⟩, fun y hy => ?_⟩
    · obtain ⟨i, hi, rfl⟩ := List.mem_map.1 hy
      rw [List.mem_range] at hi
      rw [dif_pos hi]
      exact (cell (each i hi).choose_spec.1).1
    · obtain ⟨b, off, spot⟩ := x
      have c0 := cell (each 0 h0).choose_spec.1
      obtain ⟨v0, hv0⟩ : ∃ v, (each 0 h0).choose[0]? = some v := ⟨_, List.getElem?_eq_getElem (by rw [c0.1]; exact s0)⟩
      have g0 := c0.2 0 v0 hv0
      have hsp : spot = none := by
        have := World.cell?_spot g0
        simpa [Addr.add] using this
      subst hsp
      have hplain : ∀ o j, (⟨b, o, none⟩ : Addr).add j = ⟨b, o + j, none⟩ := fun o j => by unfold Addr.add; split <;> simp_all
      refine ⟨b, off, rfl, ?_, fun q v hq => ?_⟩
      · rw [hplain, hplain] at g0
        exact World.block_lt_of_cell? W _ g0
      · have hL : ∀ y ∈ (List.range len).map (fun r => if h : r < len then (each r h).choose else []), y.length = P.cellsOf e := fun y hy => by
          obtain ⟨i, hi, rfl⟩ := List.mem_map.1 hy
          rw [List.mem_range] at hi
          rw [dif_pos hi]
          exact (cell (each i hi).choose_spec.1).1
        have hql := (List.getElem?_eq_some_iff.1 hq).1
        rw [flatten_len hL, List.length_map, List.length_range] at hql
        have hj : q / P.cellsOf e < len := Nat.div_lt_of_lt_mul (by rw [Nat.mul_comm]; exact hql)
        have hrm := Nat.mod_lt q s0
        have ee : q / P.cellsOf e * P.cellsOf e + q % P.cellsOf e = q := by rw [Nat.mul_comm]; exact Nat.div_add_mod q _
        have fa := flat_at hL (j := q / P.cellsOf e) (i := q % P.cellsOf e) (by rw [List.length_map, List.length_range]; exact hj) hrm
        rw [ee, hq, List.getD_eq_getElem?_getD, List.getElem?_map, List.getElem?_range hj, Option.map_some, Option.getD_some, dif_pos hj] at fa
        have := (cell (each _ hj).choose_spec.1).2 _ _ fa.symm
        rw [hplain, hplain, Nat.add_assoc, ee] at this
        exact this
    · obtain ⟨i, hi, rfl⟩ := List.mem_map.1 hy
      rw [List.mem_range] at hi
      rw [dif_pos hi]
      exact (each i hi).choose_spec.2
end
end Go.Proofs.Yteaoacinhdjkeaa
end

section
/-
  Calls as the law JournalPlays lists them. No conditions.
-/
namespace Go.Proofs.Yteaoacinhdjkeaa
open Go.ChangeShapes Go.WideShapes Go.ChangeAt Go.RowKit Go.Deep
set_option maxRecDepth 100000

structure O22 where
  d : Int
  i : Int
  A : Option Addr
  c : Nat
  b : List UInt8
  kept : Nat
def O22.C (o : O22) : List Value := [.int .i64 o.d, .int .i64 o.i, .slice o.A o.b.length o.c, .int .u64 (o.kept : Int)]
def O22.ok (W : World) (o : O22) : Prop := (-9223372036854775808 ≤ o.i ∧ o.i ≤ 9223372036854775807) ∧ o.kept < 18446744073709551616 ∧ Bs W o.A o.b.length o.c o.b
theorem o22_of {W : World} {x : List Value} (h : FitL W (.i .i64 :: (.i .i64 :: (.s8 :: (.i .u64 :: [])))) x) : ∃ o : O22, x = o.C ∧ o.ok W := by
  obtain ⟨d, r, rfl, _, h1⟩ := h.int
  obtain ⟨i, r, rfl, hi, h2⟩ := h1.int
  obtain ⟨A, m, c, xs, r, rfl, bs, h3⟩ := h2.bs
  obtain ⟨k, r, rfl, hk, h4⟩ := h3.u64
  obtain rfl := h4.nil
  obtain rfl : xs.length = m := bs.len
  exact ⟨⟨d, i, A, c, xs, k⟩, rfl, hi, hk, bs⟩
theorem list_of22 {α : Type} {p : α → Prop} {f : α → List Value} : ∀ {K : List (List Value)}, (∀ x ∈ K, ∃ o, x = f o ∧ p o) → ∃ L : List α, K = L.map f ∧ ∀ o ∈ L, p o
  | [], _ => ⟨[], rfl, fun o h => by cases h⟩
  | x :: K, h => by
    obtain ⟨o, rfl, ho⟩ := h x (List.mem_cons_self ..)
    obtain ⟨L, rfl, hL⟩ := list_of22 fun y hy => h y (List.mem_cons_of_mem _ hy)
    exact ⟨o :: L, rfl, fun z hz => by
      rcases List.mem_cons.1 hz with rfl | hz
      · exact ho
      · exact hL z hz⟩
/-- The whole i-th call. -/
theorem o22_all {w : World} {A : Option Addr} {n c : Nat} {L : List O22} (h : Cs w 4 A n c (L.map O22.C)) (ok : ∀ o ∈ L, o.ok w) {i : Nat} (hi : i < n) :
    ∃ b off, ∃ o : O22, A = some ⟨b, off, none⟩ ∧ L[i]? = some o ∧ o.ok w ∧ ∀ s, Ext w s → ∀ q v, o.C[q]? = some v → s.cell? ⟨b, off + i * 4 + q, none⟩ = some v := by
  have hl : L.length = n := by have := h.1.1; rwa [List.length_map] at this
  have hL : L[i]? = some (L[i]'(by omega)) := List.getElem?_eq_getElem _
  have hok := ok _ (List.getElem_mem (show i < L.length by omega))
  obtain ⟨b, off, hA, hb, hc⟩ := h.at hi
  have e1 : (L.map O22.C).getD i [] = (L[i]'(by omega)).C := by rw [List.getD_eq_getElem?_getD, List.getElem?_map, hL]; rfl
  rw [e1] at hc
  exact ⟨b, off, _, hA, hL, hok, fun s e q v hv => (e.cell hb).trans (hc q v hv)⟩
end Go.Proofs.Yteaoacinhdjkeaa
end

section
/-
  Calls as the law StrikesPlays lists them. No conditions.
-/
namespace Go.Proofs.Yteaoacinhdjkeaa
open Go.ChangeShapes Go.WideShapes Go.ChangeAt Go.RowKit Go.Deep
set_option maxRecDepth 100000

structure O23 where
  d : Int
  a : Int
  i : Int
  t : Int
  kept : Nat
  A : Option Addr
  c : Nat
  b : List UInt8
def O23.C (o : O23) : List Value := [.int .i64 o.d, .int .i64 o.a, .int .i64 o.i, .int .i64 o.t, .int .u64 (o.kept : Int), .slice o.A o.b.length o.c]
def O23.ok (W : World) (o : O23) : Prop := (-9223372036854775808 ≤ o.i ∧ o.i ≤ 9223372036854775807) ∧ o.kept < 18446744073709551616 ∧ Bs W o.A o.b.length o.c o.b
theorem o23_of {W : World} {x : List Value} (h : FitL W (.i .i64 :: (.i .i64 :: (.i .i64 :: (.i .i64 :: (.i .u64 :: (.s8 :: [])))))) x) : ∃ o : O23, x = o.C ∧ o.ok W := by
  obtain ⟨d, r, rfl, _, h1⟩ := h.int
  obtain ⟨a, r, rfl, _, h2⟩ := h1.int
  obtain ⟨i, r, rfl, hi, h3⟩ := h2.int
  obtain ⟨t, r, rfl, _, h4⟩ := h3.int
  obtain ⟨k, r, rfl, hk, h5⟩ := h4.u64
  obtain ⟨A, m, c, xs, r, rfl, bs, h6⟩ := h5.bs
  obtain rfl := h6.nil
  obtain rfl : xs.length = m := bs.len
  exact ⟨⟨d, a, i, t, k, A, c, xs⟩, rfl, hi, hk, bs⟩
/-- The whole i-th call. -/
theorem o23_all {w : World} {A : Option Addr} {n c : Nat} {L : List O23} (h : Cs w 6 A n c (L.map O23.C)) (ok : ∀ o ∈ L, o.ok w) {i : Nat} (hi : i < n) :
    ∃ b off, ∃ o : O23, A = some ⟨b, off, none⟩ ∧ L[i]? = some o ∧ o.ok w ∧ ∀ s, Ext w s → ∀ q v, o.C[q]? = some v → s.cell? ⟨b, off + i * 6 + q, none⟩ = some v := by
  have hl : L.length = n := by have := h.1.1; rwa [List.length_map] at this
  have hL : L[i]? = some (L[i]'(by omega)) := List.getElem?_eq_getElem _
  have hok := ok _ (List.getElem_mem (show i < L.length by omega))
  obtain ⟨b, off, hA, hb, hc⟩ := h.at hi
  have e1 : (L.map O23.C).getD i [] = (L[i]'(by omega)).C := by rw [List.getD_eq_getElem?_getD, List.getElem?_map, hL]; rfl
  rw [e1] at hc
  exact ⟨b, off, _, hA, hL, hok, fun s e q v hv => (e.cell hb).trans (hc q v hv)⟩
end Go.Proofs.Yteaoacinhdjkeaa
end
