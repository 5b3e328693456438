import Derived.Test.YteaoacinhdjkeaaPkC
import Derived.Test.YteaoacinhdjkeaaPkG
import Derived.Test.YteaoacinhdjkeaaBase
import Derived.Deep.Grids
section
/-
  Strikes: a ledger of a healthy disk, beside blocks that stay.
-/
namespace Go.Proofs.Yteaoacinhdjkeaa
open Go.ChangeShapes Go.WideShapes Go.ChangeAt Go.RowKit Go.Deep Go.Maps
set_option maxRecDepth 100000

/-- As HS; the blocks F are none of its own. -/
def HF (F : Nat → Prop) (w W : World) (lg : Nat) (K : List Sk) (m n : Nat) : Prop := ∃ g dg r mb lb d B R D c L, SN w W lg g dg r mb lb d B R D c L K ∧ Hd22 d m L ∧ L.length = n ∧ ∀ i, F i → i < W.heap.size ∧ w.heap.size ≤ i ∧ ¬ Pl23 g dg r mb lb (Value.ownBlock (.slice D L.length c)) i ∧ i ≠ lg
section
variable {F : Nat → Prop} {w W W' : World} {lg : Nat} {K : List Sk} {m n : Nat}
theorem HF.hs (h : HF F w W lg K m n) : HS w W lg K m n := by
  obtain ⟨a1, a2, a3, a4, a5, a6, a7, a8, a9, a10, a11, h1, h2, h3, _⟩ := h
  exact ⟨a1, a2, a3, a4, a5, a6, a7, a8, a9, a10, a11, h1, h2, h3⟩
theorem HF.ext (h : HF F w W lg K m n) (x : Ext W W') : HF F w W' lg K m n := by
  obtain ⟨a1, a2, a3, a4, a5, a6, a7, a8, a9, a10, a11, h1, h2, h3, h4⟩ := h
  exact ⟨a1, a2, a3, a4, a5, a6, a7, a8, a9, a10, a11, h1.ext x, h2, h3, fun i q => ⟨Nat.lt_of_lt_of_le (h4 i q).1 x.size, (h4 i q).2⟩⟩
theorem SN.lt {g dg r mb lb : Nat} {d : Ds} {B : Nat} {R : Nat → Prop} {D : Option Addr} {c : Nat} {L : List (List UInt8)} (h : SN w W lg g dg r mb lb d B R D c L K) : ∀ i, Pl23 g dg r mb lb (Value.ownBlock (.slice D L.length c)) i → i < W.heap.size := fun i q => by
  rcases q with q | q
  · exact h.jn.lt i q
  · rw [q]; exact h.le.mp.lt
theorem SN.low {g dg r mb lb : Nat} {d : Ds} {B : Nat} {R : Nat → Prop} {D : Option Addr} {c : Nat} {L : List (List UInt8)} (h : SN w W lg g dg r mb lb d B R D c L K) : ∀ i, Pl23 g dg r mb lb (Value.ownBlock (.slice D L.length c)) i → w.heap.size ≤ i := fun i q => by
  have h1 := h.jn.wd
  have h2 := h.jn.wr
  have h3 := h.jn.wm
  have h4 := h.jn.wB
  have h5 := h.jn.jk.2.2
  have h6 := h.wb
  rcases q with (q | q | q | q | q) | q
  · omega
  · omega
  · omega
  · omega
  · have := (h.jn.jk.2.1.ge _ q).1; omega
  · omega
/-- Blocks that are new. -/
theorem HS.beside (h : HS w W lg K m n) (x : Ext W W') (hF : ∀ i, F i → W.heap.size ≤ i ∧ i < W'.heap.size) : HF F w W' lg K m n := by
  obtain ⟨a1, a2, a3, a4, a5, a6, a7, a8, a9, a10, a11, h1, h2, h3⟩ := h
  have := h1.le.cb.lt
  have := h1.jn.ex.size
  exact ⟨a1, a2, a3, a4, a5, a6, a7, a8, a9, a10, a11, h1.ext x, h2, h3, fun i q => ⟨(hF i q).2, by have := (hF i q).1; omega, fun z => by
    have := h1.lt i z
    have := (hF i q).1
    omega, by have := (hF i q).1; omega⟩⟩
/-- The blocks F turn. -/
theorem HF.turn (h : HF F w W lg K m n) (k : Ot F W W') (hN : ∀ i, F i → ∀ (j : Nat) (x : Int), W.cell? ⟨i, j, none⟩ ≠ some (.int .u8 x)) : HF F w W' lg K m n := by
  obtain ⟨g, dg, r, mb, lb, d, B, R, D, c, L, h1, h2, h3, h4⟩ := h
  have no : ∀ i, Pl23 g dg r mb lb (Value.ownBlock (.slice D L.length c)) i → ¬ F i := fun i q z => (h4 i z).2.2.1 q
  have dk := h1.jn.dk
  refine ⟨g, dg, r, mb, lb, d, B, R, D, c, L, ⟨⟨h1.jn.jk.ot k (no g (.inl (.inr (.inr (.inr (.inl rfl)))))) (fun i q q2 => no i (.inl (.inr (.inr (.inr (.inr q2))))) q) (fun i q => .inr (hN i q)), dk.stay (k.same dk.cb.lt (no _ (.inl (.inl rfl)))) (k.same dk.row.lt (no _ (.inl (.inr (.inl rfl))))) (k.same dk.mp.lt (no _ (.inl (.inr (.inr (.inl rfl)))))), h1.jn.rR, fun i q => Nat.lt_of_lt_of_le (h1.jn.rw i q) k.size, h1.jn.wB, h1.jn.wd, h1.jn.wr, h1.jn.wm, Ot.ext h1.jn.ex k fun i q => (h4 i q).2.1⟩, h1.le.stay (k.same h1.le.cb.lt fun q => (h4 _ q).2.2.2 rfl) (k.same h1.le.mp.lt (no _ (.inr rfl))), h1.nb, h1.wl, h1.wb⟩, h2, h3, fun i q => ⟨Nat.lt_of_lt_of_le (h4 i q).1 k.size, (h4 i q).2⟩⟩
/-- One more block stays. -/
theorem HF.more (h : HF F w W lg K m n) (x : Ext W W') {r : Nat} (h1 : W.heap.size ≤ r) (h2 : r < W'.heap.size) : HF (fun i => F i ∨ i = r) w W' lg K m n := by
  have hx := h.hs.ex.size
  obtain ⟨g, dg, rr, mb, lb, d, B, R, D, c, L, s1, s2, s3, s4⟩ := h
  have lt := s1.lt
  have llt := s1.le.cb.lt
  refine ⟨g, dg, rr, mb, lb, d, B, R, D, c, L, s1.ext x, s2, s3, fun i q => ?_⟩
  rcases q with q | q
  · exact ⟨Nat.lt_of_lt_of_le (s4 i q).1 x.size, (s4 i q).2⟩
  · subst q
    exact ⟨h2, by omega, fun z => by have := lt i z; omega, by omega⟩
theorem HF.kept {W1 : World} {g dg r mb lb : Nat} {d : Ds} {B : Nat} {R : Nat → Prop} {D : Option Addr} {c : Nat} {L : List (List UInt8)} {x : Rk} (h2 : Hd22 d m L) (hn : L.length < m) (x1 : Ext W W1) (lo : ∀ i, Pl23 g dg r mb lb (Value.ownBlock (.slice D L.length c)) i → w.heap.size ≤ i) (h4 : ∀ i, F i → i < W.heap.size ∧ w.heap.size ≤ i ∧ ¬ Pl23 g dg r mb lb (Value.ownBlock (.slice D L.length c)) i ∧ i ≠ lg) (k : Kept w W1 W' lg g dg r mb lb d B R D c L K x) : HF F w W' lg (followL K x) m (L.length + 1) ∧ Ot (fun i => w.heap.size ≤ i ∧ ¬ F i) W W' := by
  obtain ⟨s1, s2, s3⟩ := h2.step (xs := bytesR x) (by rw [bytesR_len]; omega)
  rw [if_neg (by omega)] at s1 s3
  obtain ⟨mb', D', c', k1, k2, k3, k4⟩ := k
  have sz := x1.size
  have sz2 := k2.size
  rw [s1, if_pos rfl] at k1
  have ap : ∀ i, F i → ¬ Pl23 g dg r mb' lb (Value.ownBlock (.slice D' (d.jL L (bytesR x)).length c')) i := fun i q z => by
    obtain ⟨q1, q0, q2, _⟩ := h4 i q
    rcases z with (z | z | z | z | z) | z
    · exact q2 (.inl (.inl z))
    · exact q2 (.inl (.inr (.inl z)))
    · rcases k4 with e | e
      · exact q2 (.inl (.inr (.inr (.inl (z.trans e)))))
      · omega
    · exact q2 (.inl (.inr (.inr (.inr (.inl z)))))
    · rcases k3 with e | ⟨y, e, hy⟩
      · exact q2 (.inl (.inr (.inr (.inr (.inr (e.symm.trans z))))))
      · rw [e] at z
        have := Option.some.inj z
        omega
    · exact q2 (.inr z)
  rw [s3] at k1 s2 ap
  refine ⟨⟨g, dg, r, mb', lb, _, B, R, D', c', _, k1, s2, by simp, fun i q => ⟨by have := (h4 i q).1; omega, (h4 i q).2.1, ap i q, (h4 i q).2.2.2⟩⟩, (Ot.of_ext x1).trans (k2.mono fun i _ q => ⟨lo i q, fun z => (h4 i z).2.2.1 q⟩)⟩
theorem HF.add (h : HF F w W lg K m n) (hn : n < m) (hm : m ≤ 64) {a i t : Nat} (ha : a < 8) (hi : i ≤ 1000000) (ht : t ≤ 1000000) (hs : findS K (i : Int) = none) :
    Calls Try.prog 30 #[.pointer (some ⟨lg, 0, none⟩), .int .i64 (a : Int), .int .i64 (i : Int), .int .i64 (t : Int)] W fun e W' => e = .returned (.int .i64 0) ∧ HF F w W' lg (K ++ [⟨i, a, t, false⟩]) m (n + 1) ∧ Ot (fun i => w.heap.size ≤ i ∧ ¬ F i) W W' := by
  obtain ⟨g, dg, r, mb, lb, d, B, R, D, c, L, h1, h2, rfl, h4⟩ := h
  obtain ⟨s1, _, _⟩ := h2.step (xs := bytesR ⟨1, a, i, t⟩) (by rw [bytesR_len]; omega)
  rw [if_neg (by omega)] at s1
  refine (sadd_ok h1 (by omega) ha hi ht hs).mono ?_
  rintro e W' ⟨he, W1, x1, k⟩
  rw [s1] at he
  have := HF.kept h2 hn x1 h1.low h4 k
  unfold followL at this
  dsimp only at this
  rw [if_pos rfl, hs] at this
  exact ⟨he, this⟩
theorem HF.twice (h : HF F w W lg K m n) {a i t : Nat} (ha : a < 8) (hi : i ≤ 1000000) (ht : t ≤ 1000000) {s : Sk} (hs : findS K (i : Int) = some s) :
    Calls Try.prog 30 #[.pointer (some ⟨lg, 0, none⟩), .int .i64 (a : Int), .int .i64 (i : Int), .int .i64 (t : Int)] W fun e W' => e = .returned (.int .i64 9) ∧ HF F w W' lg K m n ∧ Ot (fun i => w.heap.size ≤ i ∧ ¬ F i) W W' := by
  obtain ⟨g, lb, l⟩ := h.hs.led
  refine (sadd_twice l ha hi ht hs).mono fun e W' q => ⟨q.1, h.ext q.2, Ot.of_ext q.2⟩
end
end Go.Proofs.Yteaoacinhdjkeaa
end

section
/-
  Strikes: a ledger of any disk, beside blocks that stay.
-/
namespace Go.Proofs.Yteaoacinhdjkeaa
open Go.ChangeShapes Go.WideShapes Go.ChangeAt Go.RowKit Go.Deep Go.Maps
set_option maxRecDepth 100000

/-- A ledger of the disk at dg; the blocks F are none of its own. -/
def GF (F : Nat → Prop) (w W : World) (dg r lg : Nat) (d : Ds) (L : List (List UInt8)) (K : List Sk) : Prop := ∃ g mb lb B R D c, SN w W lg g dg r mb lb d B R D c L K ∧ ∀ i, F i → i < W.heap.size ∧ w.heap.size ≤ i ∧ ¬ Pl23 g dg r mb lb (Value.ownBlock (.slice D L.length c)) i ∧ i ≠ lg
section
variable {F : Nat → Prop} {w W W' : World} {dg r lg : Nat} {d : Ds} {L : List (List UInt8)} {K : List Sk}
theorem GF.ext (h : GF F w W dg r lg d L K) (x : Ext W W') : GF F w W' dg r lg d L K := by
  obtain ⟨a1, a2, a3, a4, a5, a6, a7, h1, h4⟩ := h
  exact ⟨a1, a2, a3, a4, a5, a6, a7, h1.ext x, fun i q => ⟨Nat.lt_of_lt_of_le (h4 i q).1 x.size, (h4 i q).2⟩⟩
theorem GF.ex (h : GF F w W dg r lg d L K) : Ext w W := by
  obtain ⟨a1, a2, a3, a4, a5, a6, a7, h1, h4⟩ := h
  exact h1.jn.ex
theorem GF.ok (h : GF F w W dg r lg d L K) : OkS K := by
  obtain ⟨a1, a2, a3, a4, a5, a6, a7, h1, h4⟩ := h
  exact h1.le.ok
theorem GF.led (h : GF F w W dg r lg d L K) : ∃ g lb, LG W lg g lb K := by
  obtain ⟨a1, a2, a3, a4, a5, a6, a7, h1, h4⟩ := h
  exact ⟨_, _, h1.le⟩
theorem GF.more (h : GF F w W dg r lg d L K) (x : Ext W W') {b : Nat} (h1 : W.heap.size ≤ b) (h2 : b < W'.heap.size) : GF (fun i => F i ∨ i = b) w W' dg r lg d L K := by
  have hx := h.ex.size
  obtain ⟨g, mb, lb, B, R, D, c, s1, s4⟩ := h
  have lt := s1.lt
  have llt := s1.le.cb.lt
  refine ⟨g, mb, lb, B, R, D, c, s1.ext x, fun i q => ?_⟩
  rcases q with q | q
  · exact ⟨Nat.lt_of_lt_of_le (s4 i q).1 x.size, (s4 i q).2⟩
  · subst q
    exact ⟨h2, by omega, fun z => by have := lt i z; omega, by omega⟩
theorem GF.fewer {F' : Nat → Prop} (h : GF F w W dg r lg d L K) (hF : ∀ i, F' i → F i) : GF F' w W dg r lg d L K := by
  obtain ⟨a1, a2, a3, a4, a5, a6, a7, h1, h4⟩ := h
  exact ⟨a1, a2, a3, a4, a5, a6, a7, h1, fun i q => h4 i (hF i q)⟩
theorem GF.turn (h : GF F w W dg r lg d L K) (k : Ot F W W') (hN : ∀ i, F i → ∀ (j : Nat) (x : Int), W.cell? ⟨i, j, none⟩ ≠ some (.int .u8 x)) : GF F w W' dg r lg d L K := by
  obtain ⟨g, mb, lb, B, R, D, c, h1, h4⟩ := h
  have no : ∀ i, Pl23 g dg r mb lb (Value.ownBlock (.slice D L.length c)) i → ¬ F i := fun i q z => (h4 i z).2.2.1 q
  have dk := h1.jn.dk
  refine ⟨g, mb, lb, B, R, D, c, ⟨⟨h1.jn.jk.ot k (no g (.inl (.inr (.inr (.inr (.inl rfl)))))) (fun i q q2 => no i (.inl (.inr (.inr (.inr (.inr q2))))) q) (fun i q => .inr (hN i q)), dk.stay (k.same dk.cb.lt (no _ (.inl (.inl rfl)))) (k.same dk.row.lt (no _ (.inl (.inr (.inl rfl))))) (k.same dk.mp.lt (no _ (.inl (.inr (.inr (.inl rfl)))))), h1.jn.rR, fun i q => Nat.lt_of_lt_of_le (h1.jn.rw i q) k.size, h1.jn.wB, h1.jn.wd, h1.jn.wr, h1.jn.wm, Ot.ext h1.jn.ex k fun i q => (h4 i q).2.1⟩, h1.le.stay (k.same h1.le.cb.lt fun q => (h4 _ q).2.2.2 rfl) (k.same h1.le.mp.lt (no _ (.inr rfl))), h1.nb, h1.wl, h1.wb⟩, fun i q => ⟨Nat.lt_of_lt_of_le (h4 i q).1 k.size, (h4 i q).2⟩⟩
theorem GF.kept {W1 : World} {g mb lb : Nat} {B : Nat} {R : Nat → Prop} {D : Option Addr} {c : Nat} {x : Rk} (x1 : Ext W W1) (h1 : SN w W lg g dg r mb lb d B R D c L K) (h4 : ∀ i, F i → i < W.heap.size ∧ w.heap.size ≤ i ∧ ¬ Pl23 g dg r mb lb (Value.ownBlock (.slice D L.length c)) i ∧ i ≠ lg) (k : Kept w W1 W' lg g dg r mb lb d B R D c L K x) :
    GF F w W' dg r lg (d.jD L.length (bytesR x)) (d.jL L (bytesR x)) (if d.jE L.length (bytesR x) = 0 then followL K x else K) ∧ Ot (fun i => w.heap.size ≤ i ∧ ¬ F i) W W' := by
  obtain ⟨mb', D', c', k1, k2, k3, k4⟩ := k
  have sz := x1.size
  have sz2 := k2.size
  have lo := h1.low
  refine ⟨⟨g, mb', lb, B, R, D', c', k1, fun i q => ⟨by have := (h4 i q).1; omega, (h4 i q).2.1, fun z => ?_, (h4 i q).2.2.2⟩⟩, (Ot.of_ext x1).trans (k2.mono fun i _ q => ⟨lo i q, fun z => (h4 i z).2.2.1 q⟩)⟩
  obtain ⟨q1, q0, q2, _⟩ := h4 i q
  rcases z with (z | z | z | z | z) | z
  · exact q2 (.inl (.inl z))
  · exact q2 (.inl (.inr (.inl z)))
  · rcases k4 with e | e
    · exact q2 (.inl (.inr (.inr (.inl (z.trans e)))))
    · omega
  · exact q2 (.inl (.inr (.inr (.inr (.inl z)))))
  · rcases k3 with e | ⟨y, e, hy⟩
    · exact q2 (.inl (.inr (.inr (.inr (.inr (e.symm.trans z))))))
    · rw [e] at z
      have := Option.some.inj z
      omega
  · exact q2 (.inr z)
theorem GF.add (h : GF F w W dg r lg d L K) (hL : L.length ≤ 64) {a i t : Nat} (ha : a < 8) (hi : i ≤ 1000000) (ht : t ≤ 1000000) (hs : findS K (i : Int) = none) :
    Calls Try.prog 30 #[.pointer (some ⟨lg, 0, none⟩), .int .i64 (a : Int), .int .i64 (i : Int), .int .i64 (t : Int)] W fun e W' => e = .returned (.int .i64 (d.jE L.length (bytesR ⟨1, a, i, t⟩))) ∧ GF F w W' dg r lg (d.jD L.length (bytesR ⟨1, a, i, t⟩)) (d.jL L (bytesR ⟨1, a, i, t⟩)) (if d.jE L.length (bytesR ⟨1, a, i, t⟩) = 0 then followL K ⟨1, a, i, t⟩ else K) ∧ Ot (fun i => w.heap.size ≤ i ∧ ¬ F i) W W' := by
  obtain ⟨g, mb, lb, B, R, D, c, h1, h4⟩ := h
  refine (sadd_ok h1 hL ha hi ht hs).mono ?_
  rintro e W' ⟨he, W1, x1, k⟩
  exact ⟨he, GF.kept x1 h1 h4 k⟩
theorem GF.clear (h : GF F w W dg r lg d L K) (hL : L.length ≤ 64) {i t : Nat} (hi : i ≤ 1000000) (ht : t ≤ 1000000) {s : Sk} (hs : findS K (i : Int) = some s) (hrev : s.rev = false) :
    Calls Try.prog 32 #[.pointer (some ⟨lg, 0, none⟩), .int .i64 (i : Int), .int .i64 (t : Int)] W fun e W' => e = .returned (.int .i64 (d.jE L.length (bytesR ⟨2, s.acc, i, t⟩))) ∧ GF F w W' dg r lg (d.jD L.length (bytesR ⟨2, s.acc, i, t⟩)) (d.jL L (bytesR ⟨2, s.acc, i, t⟩)) (if d.jE L.length (bytesR ⟨2, s.acc, i, t⟩) = 0 then followL K ⟨2, s.acc, i, t⟩ else K) ∧ Ot (fun i => w.heap.size ≤ i ∧ ¬ F i) W W' := by
  obtain ⟨g, mb, lb, B, R, D, c, h1, h4⟩ := h
  refine (sclear_ok h1 hL hi ht hs hrev).mono ?_
  rintro e W' ⟨he, W1, x1, k⟩
  exact ⟨he, GF.kept x1 h1 h4 k⟩
/-- The disk turns. -/
theorem GF.disk (h : GF F w W dg r lg d L K) {f : FuncId} {args : Array Value} {v : Value} {d2 : Ds} (hc : ∀ mb, DK W dg r mb d → Calls Try.prog f args W fun e W' => e = .returned v ∧ ∃ mb', DK W' dg r mb' d2 ∧ (mb' = mb ∨ W.heap.size ≤ mb') ∧ Ot (Pd22 dg r mb) W W') :
    Calls Try.prog f args W fun e W' => e = .returned v ∧ GF F w W' dg r lg d2 L K ∧ Ot (fun i => w.heap.size ≤ i ∧ ¬ F i) W W' := by
  obtain ⟨g, mb, lb, B, R, D, c, h1, h4⟩ := h
  refine (hc mb h1.jn.dk).mono ?_
  rintro e W' ⟨he, mb', dk, hm, k⟩
  have k2 : Ot (Pj22 g dg r mb (Value.ownBlock (.slice D L.length c))) W W' := k.mono fun i _ q => q.elim .inl fun q => q.elim (fun q => .inr (.inl q)) fun q => .inr (.inr (.inl q))
  have lo := h1.low
  refine ⟨he, ⟨g, mb', lb, B, R, D, c, h1.jour (h1.jn.disk dk k hm) k2 hm, fun i q => ⟨Nat.lt_of_lt_of_le (h4 i q).1 k.size, (h4 i q).2.1, fun z => ?_, (h4 i q).2.2.2⟩⟩, k2.mono fun i _ q => ⟨lo i (.inl q), fun z => (h4 i z).2.2.1 (.inl q)⟩⟩
  obtain ⟨q1, q0, q2, _⟩ := h4 i q
  rcases z with (z | z | z | z | z) | z
  · exact q2 (.inl (.inl z))
  · exact q2 (.inl (.inr (.inl z)))
  · rcases hm with e | e
    · exact q2 (.inl (.inr (.inr (.inl (z.trans e)))))
    · omega
  · exact q2 (.inl (.inr (.inr (.inr (.inl z)))))
  · exact q2 (.inl (.inr (.inr (.inr (.inr z)))))
  · exact q2 (.inr z)
theorem GF.fuse (h : GF F w W dg r lg d L K) {n : Int} (hn : -9223372036854775808 ≤ n ∧ n ≤ 9223372036854775807) : Calls Try.prog 18 #[.pointer (some ⟨dg, 0, none⟩), .int .i64 n] W fun e W' => e = .returned (.tuple #[]) ∧ GF F w W' dg r lg (d.fuse n) L K ∧ Ot (fun i => w.heap.size ≤ i ∧ ¬ F i) W W' :=
  h.disk fun mb dk => (dfuse_calls dk hn).mono fun e W' q => ⟨q.1, mb, q.2.1, .inl rfl, Ot.of_grown q.2.2 (.inl rfl)⟩
theorem GF.crash (h : GF F w W dg r lg d L K) {kept : Nat} (hk : kept < 18446744073709551616) : Calls Try.prog 20 #[.pointer (some ⟨dg, 0, none⟩), .int .u64 (kept : Int)] W fun e W' => e = .returned (.tuple #[]) ∧ GF F w W' dg r lg (d.crash kept) L K ∧ Ot (fun i => w.heap.size ≤ i ∧ ¬ F i) W W' :=
  h.disk fun mb dk => (dcrash_calls dk hk).mono fun e W' q => by
    obtain ⟨q1, mb', q2, q3, q4⟩ := q
    exact ⟨q1, mb', q2, .inr q3, Ot.of_two q4 (.inl rfl) (.inr (.inl rfl))⟩
/-- All is opened anew. -/
theorem GF.begun (h : GF F w W dg r lg d L K) : Calls Try.prog 28 #[.pointer (some ⟨dg, 0, none⟩)] W fun e W' => ∃ g lg2, e = .returned (.tuple #[.pointer (some ⟨g, 0, none⟩), .pointer (some ⟨lg2, 0, none⟩)]) ∧ GF F w W' dg r lg2 d d.recs (kOf d.recs) ∧ Ext W W' := by
  obtain ⟨g, mb, lb, B, R, D, c, h1, h4⟩ := h
  refine (begun_calls h1.jn.dk h1.jn.ex h1.jn.wd h1.jn.wr h1.jn.wm).mono ?_
  rintro e W' ⟨g2, lg2, lb2, R2, D2, c2, he, s2, ⟨b1, b2⟩, x⟩
  refine ⟨g2, lg2, he, ⟨g2, mb, lb2, _, R2, D2, c2, s2, fun i q => ?_⟩, x⟩
  obtain ⟨q1, q0, q2, _⟩ := h4 i q
  refine ⟨Nat.lt_of_lt_of_le q1 x.size, q0, fun z => ?_, by omega⟩
  have jB := s2.jn.jk.2.2
  rcases z with (z | z | z | z | z) | z
  · exact q2 (.inl (.inl z))
  · exact q2 (.inl (.inr (.inl z)))
  · exact q2 (.inl (.inr (.inr (.inl z))))
  · omega
  · have := (s2.jn.jk.2.1.ge i z).1; omega
  · omega
theorem GF.new {dg r mb : Nat} (h : DK W dg r mb d) (x : Ext w W) (wd : w.heap.size ≤ dg) (wr : w.heap.size ≤ r) (wm : w.heap.size ≤ mb) : Calls Try.prog 28 #[.pointer (some ⟨dg, 0, none⟩)] W fun e W' => ∃ g lg, e = .returned (.tuple #[.pointer (some ⟨g, 0, none⟩), .pointer (some ⟨lg, 0, none⟩)]) ∧ GF (fun _ => False) w W' dg r lg d d.recs (kOf d.recs) := by
  refine (begun_calls h x wd wr wm).mono ?_
  rintro e W' ⟨g2, lg2, lb2, R2, D2, c2, he, s2, _⟩
  exact ⟨g2, lg2, he, g2, mb, lb2, _, R2, D2, c2, s2, fun i q => q.elim⟩
end
end Go.Proofs.Yteaoacinhdjkeaa
end

section
/-
  A slice that reads as a list of numbers ('Is'). No conditions.
-/
namespace Go.Proofs.Yteaoacinhdjkeaa
open Go.ChangeShapes Go.WideShapes Go.ChangeAt Go.RowKit Go.Deep

/-- The number at place k. -/
def nat_at (zs : List Int) (k : Nat) : Int := zs.getD k 0
/-- The slice '.slice A n c' reads as the numbers zs. -/
def Is (w : World) (A : Option Addr) (n c : Nat) (zs : List Int) : Prop :=
  zs.length = n ∧ n ≤ c ∧ c ≤ maxLen ∧ (0 < n → ∃ b off, A = some ⟨b, off, none⟩ ∧ b < w.heap.size ∧ ∀ j, j < n → w.cell? ⟨b, off + j, none⟩ = some (.int .i64 (nat_at zs j)) ∧ -9223372036854775808 ≤ nat_at zs j ∧ nat_at zs j ≤ 9223372036854775807)
section
variable {w w' : World} {A : Option Addr} {n c : Nat} {zs : List Int}
theorem Is.len (h : Is w A n c zs) : zs.length = n := h.1
theorem Is.le (h : Is w A n c zs) : n ≤ c := h.2.1
theorem Is.cap (h : Is w A n c zs) : c ≤ 9223372036854775807 := h.2.2.1
theorem Is.nil (w : World) : Is w none 0 0 [] := ⟨rfl, Nat.le_refl _, Nat.zero_le _, fun h => absurd h (by omega)⟩
theorem Is.pos (h : Is w A n c zs) (hn : 0 < n) : ∃ b off, A = some ⟨b, off, none⟩ ∧ b < w.heap.size ∧ ∀ j, j < n → w.cell? ⟨b, off + j, none⟩ = some (.int .i64 (nat_at zs j)) ∧ -9223372036854775808 ≤ nat_at zs j ∧ nat_at zs j ≤ 9223372036854775807 := h.2.2.2 hn
theorem Is.ext (h : Is w A n c zs) (he : Ext w w') : Is w' A n c zs :=
  ⟨h.1, h.2.1, h.2.2.1, fun hn => by
    obtain ⟨b, off, e, hb, hc⟩ := h.2.2.2 hn
    exact ⟨b, off, e, Nat.lt_of_lt_of_le hb he.size, fun j hj => ⟨(he.cell hb).trans (hc j hj).1, (hc j hj).2⟩⟩⟩
end

section
variable {H : Type} {enc : TypeId × Value → H} {W : World} {P : Program}
theorem ints_of_trod {t e : TypeId} {a : Option Addr} {len cap : Nat} {d : DataW H} {p : List MemPlace} (ht : P.underlying t = some (.slice e)) (he : P.underlying e = some (.int .i64)) (hc : P.cellsOf e = 1)
    (h : DataW.Trod enc P W 0 (fun _ => true) true t (.slice a len cap) d p) : ∃ zs, Is W a len cap zs := by
  obtain ⟨fuel, hf⟩ := h
  rcases open_ints ht he hc hf with ⟨hcs, _⟩ | ⟨x, l, c, zs, hcs, _, hl, hm, hz, _, hcell, hwz⟩
  · simp [Value.cells] at hcs
    obtain ⟨rfl, rfl, rfl⟩ := hcs
    exact ⟨[], Is.nil W⟩
  · simp [Value.cells] at hcs
    obtain ⟨rfl, rfl, rfl⟩ := hcs
    have hz' : zs.length = cap := by simpa using hz
    refine ⟨zs.take len, by simp; omega, hl, hm, fun h0 => ?_⟩
    obtain ⟨b, off, rfl, hcl⟩ := ints_at hcell (by omega)
    refine ⟨b, off, rfl, ?_, fun j hj => ?_⟩
    · have := hcl 0 (by omega)
      exact World.block_lt_of_cell? W _ this
    · have hj' : j < zs.length := by omega
      have hb : -9223372036854775808 ≤ zs[j] ∧ zs[j] ≤ 9223372036854775807 := by simpa [Lit.wf, IntKind.min, IntKind.max, IntKind.signed, IntKind.bits] using hwz _ (List.getElem_mem hj')
      have e : nat_at (zs.take len) j = zs[j] := by simp [nat_at, List.getD, hj', hj]
      rw [e]
      refine ⟨?_, hb⟩
      rw [hcl j hj']
      simp [List.getD, hj']
end
end Go.Proofs.Yteaoacinhdjkeaa
end

section
/-
  A slice that reads as bools. No conditions.
-/
namespace Go.Proofs.Yteaoacinhdjkeaa
open Go.ChangeShapes Go.WideShapes Go.ChangeAt Go.RowKit Go.Deep

/-- The slice '.slice A n c' reads as the bools f 0, f 1 .. -/
def Bls (w : World) (A : Option Addr) (n c : Nat) (f : Nat → Bool) : Prop :=
  n ≤ c ∧ c ≤ maxLen ∧ (0 < n → ∃ b off, A = some ⟨b, off, none⟩ ∧ b < w.heap.size ∧ ∀ j, j < n → w.cell? ⟨b, off + j, none⟩ = some (.bool (f j)))
theorem Bls.ext {w w' : World} {A : Option Addr} {n c : Nat} {f : Nat → Bool} (h : Bls w A n c f) (he : Ext w w') : Bls w' A n c f :=
  ⟨h.1, h.2.1, fun hn => by
    obtain ⟨b, off, e, hb, hc⟩ := h.2.2 hn
    exact ⟨b, off, e, Nat.lt_of_lt_of_le hb he.size, fun j hj => (he.cell hb).trans (hc j hj)⟩⟩
section
variable {H : Type} {enc : TypeId × Value → H} {W : World} {P : Program}
theorem bools_of_trod {t e : TypeId} {a : Option Addr} {len cap : Nat} {d : DataW H} {p : List MemPlace} (ht : P.underlying t = some (.slice e)) (he : P.underlying e = some .bool) (hc : P.cellsOf e = 1)
    (h : DataW.Trod enc P W 0 (fun _ => true) true t (.slice a len cap) d p) : ∃ f, Bls W a len cap f := by
  obtain ⟨fuel, hf⟩ := h
  rcases open_bools ht he hc hf with ⟨hcs, _⟩ | ⟨x, l, c, B, hcs, _, hl, hm, _, hcell⟩
  · simp [Value.cells] at hcs
    obtain ⟨rfl, rfl, rfl⟩ := hcs
    exact ⟨fun _ => false, Nat.le_refl _, Nat.zero_le _, fun h => absurd h (by omega)⟩
  · simp [Value.cells] at hcs
    obtain ⟨rfl, rfl, rfl⟩ := hcs
    refine ⟨B, hl, hm, fun h0 => ?_⟩
    obtain ⟨b, off, spot⟩ := x
    have g0 := hcell 0 (by omega)
    have hspot : spot = none := by simpa [Addr.add] using World.cell?_spot g0
    subst hspot
    have ad : ∀ j, (⟨b, off, none⟩ : Addr).add j = ⟨b, off + j, none⟩ := fun j => by unfold Addr.add; split <;> simp_all
    refine ⟨b, off, rfl, ?_, fun j hj => ?_⟩
    · rw [ad] at g0
      exact World.block_lt_of_cell? W _ g0
    · have := hcell j (by omega)
      rwa [ad] at this
end
end Go.Proofs.Yteaoacinhdjkeaa
end

section
/-
  The law StrikesPast.
-/
namespace Go.Proofs.Yteaoacinhdjkeaa
open Go.ChangeShapes Go.WideShapes Go.ChangeAt Go.RowKit Go.Deep Go.Maps
set_option maxRecDepth 100000

theorem cnt_snoc (K : List Sk) (x : Sk) (a now : Int) : cntS (K ++ [x]) a now = cntS K a now + (if pS a now x then 1 else 0) := by
  unfold cntS
  rw [List.filter_append, List.length_append, List.filter_cons]
  split <;> rfl
theorem revS_none {K : List Sk} {i : Nat} (h : ∀ s ∈ K, s.id ≠ i) : revS K i = K := by
  unfold revS
  conv => rhs; rw [← List.map_id K]
  refine List.map_congr_left fun s hs => ?_
  rw [if_neg (h s hs)]
  rfl
theorem revS_snoc {K : List Sk} {i a t : Nat} {b : Bool} (h : ∀ s ∈ K, s.id ≠ i) : revS (K ++ [⟨i, a, t, b⟩]) i = K ++ [⟨i, a, t, true⟩] := by
  have := revS_none h
  unfold revS at this ⊢
  rw [List.map_append, this]
  simp
theorem find_snoc {K : List Sk} {i a t : Nat} {b : Bool} (h : ∀ s ∈ K, s.id ≠ i) : findS (K ++ [⟨i, a, t, b⟩]) (i : Int) = some ⟨i, a, t, b⟩ := by
  unfold findS
  rw [List.find?_append, List.find?_eq_none.2 fun s hs => by have := h s hs; simp; omega]
  simp
theorem find_no {K : List Sk} {i : Int} (h : ∀ s ∈ K, (s.id : Int) ≠ i) : findS K i = none := by
  unfold findS
  exact List.find?_eq_none.2 fun s hs => by have := h s hs; simpa using this
set_option maxHeartbeats 8000000 in
theorem past23_calls {w : World} {A A2 : Option Addr} {n c n2 c2 : Nat} {zs : List Int} {f : Nat → Bool} {v : Int} (ht : Is w A n c zs) (hc : Bls w A2 n2 c2 f) :
    Calls Try.prog 8 #[.slice A n c, .slice A2 n2 c2, .int .i64 v] w fun e w' => e = .returned (.bool true) ∧ Ext w w' := by
  have AW := Lib.hid (awake23_calls (w := w))
  have hn1 := ht.le
  have hn2 := ht.cap
  have hn3 := hc.1
  have hn4 : c2 ≤ 9223372036854775807 := hc.2.1
  replace ht := Lib.hid ht
  replace hc := Lib.hid hc
  go_enter Try.func8, Try.ntmps8
  go_wp2_with fail
  refine AW.out.mono ?_
  rintro e w1 ⟨rfl, x1⟩
  have ND := Lib.hid (dnew_ok (w := w1) (n := 64) (by omega) (by omega))
  replace x1 := Lib.hid x1
  clear AW
  go_wp2_with fail
  refine ND.out.mono ?_
  rintro e w2 ⟨dg, r, mb, rfl, q1, q2, q3, dk2, x2⟩
  have s1 := x1.out.size
  have BE := Lib.hid (HS.new (w := w) dk2 (x1.out.trans x2) (by omega) (by omega) (by omega) (by omega) (by omega))
  clear ND dk2 x1 x2 q1 q2 q3 s1
  go_wp2_with fail
  refine BE.out.mono ?_
  rintro e w3 ⟨g, lg, rfl, h3⟩
  have F3 := Lib.hid h3.ex
  replace h3 := Lib.hid h3
  clear BE
  by_cases a0 : 25 < n
  · have u1 : decide ((25 : Int) < (n : Int)) = true := decide_eq_true (by omega)
    go_wp2_with fail
    go_ret
    exact ⟨rfl, F3.out⟩
  have u1 : decide ((25 : Int) < (n : Int)) = false := decide_eq_false (by omega)
  by_cases a1 : n2 < n
  · have u2 : decide ((n2 : Int) < (n : Int)) = true := decide_eq_true (by omega)
    go_wp2_with fail
    go_ret
    exact ⟨rfl, F3.out⟩
  have u2 : decide ((n2 : Int) < (n : Int)) = false := decide_eq_false (by omega)
  by_cases c0 : v < 0
  · have u5 : decide (v < 0) = true := decide_eq_true c0
    go_wp2_with fail
    go_ret
    exact ⟨rfl, F3.out⟩
  have u5 : decide (v < 0) = false := decide_eq_false c0
  by_cases c9 : 100000 < v
  · have u6 : decide (100000 < v) = true := decide_eq_true c9
    go_wp2_with fail
    go_ret
    exact ⟨rfl, F3.out⟩
  have u6 : decide (100000 < v) = false := decide_eq_false c9
  obtain ⟨t, rfl⟩ : ∃ a : Nat, v = (a : Int) := ⟨v.toNat, by omega⟩
  have hn5 : n ≤ 25 := by omega
  have hn6 : n ≤ n2 := by omega
  have ht5 : t ≤ 100000 := by omega
  clear F3 a0 a1 c0 c9
  have u1 : decide ((25 : Int) < (n : Int)) = false := decide_eq_false (by omega)
  have u2 : ¬ n2 < n := by omega
  go_wp2_with fail
  go_loopw [12, 13] (fun nv iv wr => ∃ (i k q : Nat) (K : List Sk), i ≤ n ∧ iv = .int .i64 (i : Int) ∧ nv = .int .i64 (k : Int) ∧ q ≤ 2 * i ∧ k ≤ i ∧ HS w wr lg K 64 q ∧ (∀ s ∈ K, s.acc = 3 ∧ s.id < i) ∧ cntS K 3 (t : Int) = k) (fun _ iv _ => n - (intOf iv).toNat)
  case atStart => exact ⟨0, 0, 0, [], Nat.zero_le _, rfl, rfl, Nat.zero_le _, Nat.zero_le _, h3.out, (fun s h => by cases h), rfl⟩
  case round =>
    clear h3
    obtain ⟨i, k, q, K, hi, rfl, rfl, hq, hki, hs, al, cn⟩ := hrel
    by_cases him : i < n
    · have l1 : decide ((i : Int) < (n : Int)) = true := decide_eq_true (by omega)
      obtain ⟨b, off, rfl, hb, hcell⟩ := ht.out.pos (by omega)
      obtain ⟨hci, hz1, hz2⟩ := hcell i him
      have cc := (hs.ex.cell (p := ⟨b, off + i, none⟩) hb).trans hci
      have i2 : (i : Int) < (n : Int) := by omega
      have F := Lib.hid hs.ex
      clear hcell
      generalize nat_at zs i = z at *
      by_cases z0 : z < 0
      · have l2 : decide (z < 0) = true := decide_eq_true z0
        clear hs al cn
        go_wp2_with fail
        go_ret
        exact ⟨rfl, F.out⟩
      have l2 : decide (z < 0) = false := decide_eq_false z0
      by_cases z9 : 100000 < z
      · have l3 : decide (100000 < z) = true := decide_eq_true z9
        clear hs al cn
        go_wp2_with fail
        go_ret
        exact ⟨rfl, F.out⟩
      have l3 : decide (100000 < z) = false := decide_eq_false z9
      obtain ⟨y, rfl⟩ : ∃ y : Nat, z = (y : Int) := ⟨z.toNat, by omega⟩
      have hy : y ≤ 100000 := by omega
      have ali : ∀ s ∈ K, s.id ≠ i := fun s hs => by have := al s hs; omega
      have A1 := Lib.hid (hs.add (by omega) (by omega) (a := 3) (i := i) (t := y) (by omega) (by omega) (by omega) (find_no fun s hs => by have := al s hs; omega))
      have i1 : IntKind.i64.wrap ((i : Int) + 1) = ((i + 1 : Nat) : Int) := (IntWalk.i64_in _ (by omega)).trans (by omega)
      replace hci := Lib.hid hci
      have hexr : Ext w wr := F.out
      clear hs F cc
      have cc := Lib.hid (fun W : World => fun x : Ext w W => (x.cell (p := ⟨b, off + i, none⟩) hb).trans hci.out)
      obtain ⟨b', off', rfl, hb', hcell'⟩ := hc.out.2.2 (by omega)
      have cd := Lib.hid (fun W : World => fun x : Ext w W => (x.cell (p := ⟨b', off' + i, none⟩) hb').trans (hcell' i (by omega)))
      have i3 : (i : Int) < (n2 : Int) := by omega
      clear hcell' z0 z9 hz1 hz2
      replace al := Lib.hid al
      replace ali := Lib.hid ali
      have ex0 := Lib.hid hexr
      have ccr := cc.out wr hexr
      clear hexr
      go_wp2_with fail
      refine A1.out.mono ?_
      rintro e w4 ⟨rfl, h4⟩
      have cd4 := cd.out w4 h4.ex
      have cc4 := cc.out w4 h4.ex
      have PX : Hid (pS 3 (t : Int) ⟨i, 3, y, false⟩ = (decide ((y : Int) ≤ (t : Int)) && decide ((t : Int) - 100 ≤ (y : Int)))) := by
        unfold Hid pS
        have hw : IntKind.i64.wrap ((t : Int) - 100) = (t : Int) - 100 := IntWalk.i64_in _ (by omega)
        rw [hw]
        simp
      have CS := Lib.hid (cnt_snoc K ⟨i, 3, y, false⟩ 3 (t : Int))
      cases hf : f i with
      | true =>
        rw [hf] at cd4
        have CL := Lib.hid (h4.clear (by omega) (by omega) (i := i) (t := t) (by omega) (by omega) (find_snoc ali.out) rfl)
        clear A1 h4 hf ccr
        replace cc4 := Lib.hid cc4
        go_wp2_with fail
        refine CL.out.mono ?_
        rintro e w5 ⟨rfl, h5⟩
        rw [revS_snoc ali.out] at h5
        have CL2 := h5.clearno (i := i) (t := t) (by omega) (by omega) (fun s q => by
          rw [find_snoc ali.out] at q
          rw [← Option.some.inj q])
        rw [find_snoc ali.out] at CL2
        replace CL2 := Lib.hid CL2
        clear CL h5 cd4
        go_wp2_with fail
        refine CL2.out.mono ?_
        rintro e w6 ⟨rfl, h6⟩
        replace h6 := Lib.hid h6
        clear CL2
        have CN : Hid (cntS (K ++ [⟨i, 3, y, true⟩]) 3 (t : Int) = k) := by
          unfold Hid
          rw [cnt_snoc, cn]
          simp [pS]
        go_wp2_with fail
        go_roundw
        case rel => exact ⟨i + 1, k, q + 1 + 1, _, by omega, by go_num, rfl, by omega, by omega, h6.out, fun s hs => by
          rcases List.mem_append.1 hs with hs | hs
          · have := al.out s hs; omega
          · rw [List.mem_singleton.1 hs]; exact ⟨rfl, by dsimp only; omega⟩, CN.out⟩
        case measure => simp [intOf]; omega
      | false =>
        rw [hf] at cd4
        replace h4 := Lib.hid h4
        have AL : Hid (∀ s ∈ K ++ [(⟨i, 3, y, false⟩ : Sk)], s.acc = 3 ∧ s.id < i + 1) := fun s hs => by
          rcases List.mem_append.1 hs with hs | hs
          · have := al.out s hs; omega
          · rw [List.mem_singleton.1 hs]; exact ⟨rfl, by dsimp only; omega⟩
        have y100 : IntKind.i64.wrap ((y : Int) + 100) = (y : Int) + 100 := IntWalk.i64_in _ (by omega)
        clear A1 hf ccr
        by_cases g1 : (y : Int) ≤ (t : Int)
        · have b1 : decide ((y : Int) ≤ (t : Int)) = true := decide_eq_true g1
          by_cases g2 : (t : Int) ≤ (y : Int) + 100
          · have b2 : decide ((t : Int) ≤ (y : Int) + 100) = true := decide_eq_true g2
            have CN : Hid (cntS (K ++ [⟨i, 3, y, false⟩]) 3 (t : Int) = k + 1) := by
              unfold Hid
              rw [CS.out, PX.out, cn, b1, decide_eq_true (show (t : Int) - 100 ≤ (y : Int) by omega)]
              rfl
            have k1 : IntKind.i64.wrap ((k : Int) + 1) = ((k + 1 : Nat) : Int) := (IntWalk.i64_in _ (by omega)).trans (by omega)
            have g1' : y ≤ t := by omega
            go_wp2_with fail
            go_roundw
            case rel => exact ⟨i + 1, k + 1, q + 1, _, by omega, by go_num, by go_num, by omega, by omega, h4.out, AL.out, CN.out⟩
            case measure => simp [intOf]; omega
          · have b2 : decide ((t : Int) ≤ (y : Int) + 100) = false := decide_eq_false g2
            have CN : Hid (cntS (K ++ [⟨i, 3, y, false⟩]) 3 (t : Int) = k) := by
              unfold Hid
              rw [CS.out, PX.out, cn, decide_eq_false (show ¬ (t : Int) - 100 ≤ (y : Int) by omega)]
              simp
            have g1' : y ≤ t := by omega
            go_wp2_with fail
            go_roundw
            case rel => exact ⟨i + 1, k, q + 1, _, by omega, by go_num, rfl, by omega, by omega, h4.out, AL.out, CN.out⟩
            case measure => simp [intOf]; omega
        · have b1 : decide ((y : Int) ≤ (t : Int)) = false := decide_eq_false g1
          have CN : Hid (cntS (K ++ [⟨i, 3, y, false⟩]) 3 (t : Int) = k) := by
            unfold Hid
            rw [CS.out, PX.out, cn, b1]
            simp
          have g1' : ¬ y ≤ t := by omega
          go_wp2_with fail
          go_roundw
          case rel => exact ⟨i + 1, k, q + 1, _, by omega, by go_num, rfl, by omega, by omega, h4.out, AL.out, CN.out⟩
          case measure => simp [intOf]; omega
    · obtain rfl : i = n := by omega
      have l1 : decide ((i : Int) < (i : Int)) = false := decide_eq_false (by omega)
      have b3 : decide ((3 : Int) ≤ (k : Int)) = decide (3 ≤ k) := by rw [Bool.eq_iff_iff, decide_eq_true_iff, decide_eq_true_iff]; omega
      have C1 := hs.count (a := 3) (now := (t : Int))
      rw [cn] at C1
      replace C1 := Lib.hid C1
      have c4 : Hid (cntS K 4 (t : Int) = 0) := by
        unfold Hid cntS
        rw [List.length_eq_zero_iff, List.filter_eq_nil_iff]
        intro s hs
        have := (al s hs).1
        unfold pS
        rw [decide_eq_false (show ¬ (s.acc : Int) = 4 by omega)]
        simp
      have f9 : Hid (findS K (900 : Int) = none) := find_no fun s hs => by have := al s hs; omega
      clear hs al
      go_wp2_with fail
      refine C1.out.mono ?_
      rintro e w4 ⟨rfl, h4⟩
      have S1 := h4.susp (a := 3) (now := (t : Int))
      rw [cn] at S1
      replace S1 := Lib.hid S1
      generalize decide (3 ≤ k) = bk at *
      clear C1 h4 cn
      go_wp2_with fail
      refine S1.out.mono ?_
      rintro e w5 ⟨rfl, h5⟩
      have C2 := h5.count (a := 4) (now := (t : Int))
      rw [c4.out] at C2
      replace C2 := Lib.hid C2
      clear S1 h5 c4
      go_wp2_with fail
      refine C2.out.mono ?_
      rintro e w6 ⟨rfl, h6⟩
      have CL := h6.clearno (i := 900) (t := t) (by omega) (by omega) (fun s q => by rw [show ((900 : Nat) : Int) = 900 from rfl, f9.out] at q; cases q)
      rw [show ((900 : Nat) : Int) = 900 from rfl, f9.out] at CL
      replace CL := Lib.hid CL
      clear C2 h6 f9
      go_wp2_with fail
      refine CL.out.mono ?_
      rintro e w7 ⟨rfl, h7⟩
      have F := Lib.hid h7.ex
      clear CL h7
      go_wp2_with fail
      go_ret
      exact ⟨rfl, F.out⟩
end Go.Proofs.Yteaoacinhdjkeaa
end
