import Derived.Test.YteaoacinhdjkeaaHs23
import Derived.Test.YteaoacinhdjkeaaBase
import Derived.Deep.Grids
section
/-
  Strikes: a ledger of a healthy disk, beside blocks that stay.
-/
namespace Go.Proofs.Yteaoacinhdjkeaa
open Go.ChangeShapes Go.WideShapes Go.ChangeAt Go.RowKit Go.Deep Go.Maps
set_option maxRecDepth 100000

/-- As HS; the blocks F are none of its own. -/
def HF (F : Nat → Prop) (w W : World) (lg : Nat) (K : List Sk) (m n : Nat) : Prop := ∃ g dg r mb lb d B R D c L, SN w W lg g dg r mb lb d B R D c L K ∧ Hd22 d m L ∧ L.length = n ∧ ∀ i, F i → i < W.heap.size ∧ w.heap.size ≤ i ∧ ¬ Pl23 g dg r mb lb (Value.ownBlock (.slice D L.length c)) i ∧ i ≠ lg
section
variable {F : Nat → Prop} {w W W' : World} {lg : Nat} {K : List Sk} {m n : Nat}
theorem HF.hs (h : HF F w W lg K m n) : HS w W lg K m n := by
  obtain ⟨a1, a2, a3, a4, a5, a6, a7, a8, a9, a10, a11, h1, h2, h3, _⟩ := h
  exact ⟨a1, a2, a3, a4, a5, a6, a7, a8, a9, a10, a11, h1, h2, h3⟩
theorem HF.ext (h : HF F w W lg K m n) (x : Ext W W') : HF F w W' lg K m n := by
  obtain ⟨a1, a2, a3, a4, a5, a6, a7, a8, a9, a10, a11, h1, h2, h3, h4⟩ := h
  exact ⟨a1, a2, a3, a4, a5, a6, a7, a8, a9, a10, a11, h1.ext x, h2, h3, fun i q => ⟨Nat.lt_of_lt_of_le (h4 i q).1 x.size, (h4 i q).2⟩⟩
theorem SN.lt {g dg r mb lb : Nat} {d : Ds} {B : Nat} {R : Nat → Prop} {D : Option Addr} {c : Nat} {L : List (List UInt8)} (h : SN w W lg g dg r mb lb d B R D c L K) : ∀ i, Pl23 g dg r mb lb (Value.ownBlock (.slice D L.length c)) i → i < W.heap.size := fun i q => by
  rcases q with q | q
  · exact h.jn.lt i q
  · rw [q]; exact h.le.mp.lt
theorem SN.low {g dg r mb lb : Nat} {d : Ds} {B : Nat} {R : Nat → Prop} {D : Option Addr} {c : Nat} {L : List (List UInt8)} (h : SN w W lg g dg r mb lb d B R D c L K) : ∀ i, Pl23 g dg r mb lb (Value.ownBlock (.slice D L.length c)) i → w.heap.size ≤ i := fun i q => by
  have h1 := h.jn.wd
  have h2 := h.jn.wr
  have h3 := h.jn.wm
  have h4 := h.jn.wB
  have h5 := h.jn.jk.2.2
  have h6 := h.wb
  rcases q with (q | q | q | q | q) | q
  · omega
  · omega
  · omega
  · omega
  · have := (h.jn.jk.2.1.ge _ q).1; omega
  · omega
/-- Blocks that are new. -/
theorem HS.beside (h : HS w W lg K m n) (x : Ext W W') (hF : ∀ i, F i → W.heap.size ≤ i ∧ i < W'.heap.size) : HF F w W' lg K m n := by
  obtain ⟨a1, a2, a3, a4, a5, a6, a7, a8, a9, a10, a11, h1, h2, h3⟩ := h
  have := h1.le.cb.lt
  have := h1.jn.ex.size
  exact ⟨a1, a2, a3, a4, a5, a6, a7, a8, a9, a10, a11, h1.ext x, h2, h3, fun i q => ⟨(hF i q).2, by have := (hF i q).1; omega, fun z => by
    have := h1.lt i z
    have := (hF i q).1
    omega, by have := (hF i q).1; omega⟩⟩
/-- The blocks F turn. -/
theorem HF.turn (h : HF F w W lg K m n) (k : Ot F W W') (hN : ∀ i, F i → ∀ (j : Nat) (x : Int), W.cell? ⟨i, j, none⟩ ≠ some (.int .u8 x)) : HF F w W' lg K m n := by
  obtain ⟨g, dg, r, mb, lb, d, B, R, D, c, L, h1, h2, h3, h4⟩ := h
  have no : ∀ i, Pl23 g dg r mb lb (Value.ownBlock (.slice D L.length c)) i → ¬ F i := fun i q z => (h4 i z).2.2.1 q
  have dk := h1.jn.dk
  refine ⟨g, dg, r, mb, lb, d, B, R, D, c, L, ⟨⟨h1.jn.jk.ot k (no g (.inl (.inr (.inr (.inr (.inl rfl)))))) (fun i q q2 => no i (.inl (.inr (.inr (.inr (.inr q2))))) q) (fun i q => .inr (hN i q)), dk.stay (k.same dk.cb.lt (no _ (.inl (.inl rfl)))) (k.same dk.row.lt (no _ (.inl (.inr (.inl rfl))))) (k.same dk.mp.lt (no _ (.inl (.inr (.inr (.inl rfl)))))), h1.jn.rR, fun i q => Nat.lt_of_lt_of_le (h1.jn.rw i q) k.size, h1.jn.wB, h1.jn.wd, h1.jn.wr, h1.jn.wm, Ot.ext h1.jn.ex k fun i q => (h4 i q).2.1⟩, h1.le.stay (k.same h1.le.cb.lt fun q => (h4 _ q).2.2.2 rfl) (k.same h1.le.mp.lt (no _ (.inr rfl))), h1.nb, h1.wl, h1.wb⟩, h2, h3, fun i q => ⟨Nat.lt_of_lt_of_le (h4 i q).1 k.size, (h4 i q).2⟩⟩
/-- One more block stays. -/
theorem HF.more (h : HF F w W lg K m n) (x : Ext W W') {r : Nat} (h1 : W.heap.size ≤ r) (h2 : r < W'.heap.size) : HF (fun i => F i ∨ i = r) w W' lg K m n := by
  have hx := h.hs.ex.size
  obtain ⟨g, dg, rr, mb, lb, d, B, R, D, c, L, s1, s2, s3, s4⟩ := h
  have lt := s1.lt
  have llt := s1.le.cb.lt
  refine ⟨g, dg, rr, mb, lb, d, B, R, D, c, L, s1.ext x, s2, s3, fun i q => ?_⟩
  rcases q with q | q
  · exact ⟨Nat.lt_of_lt_of_le (s4 i q).1 x.size, (s4 i q).2⟩
  · subst q
    exact ⟨h2, by omega, fun z => by have := lt i z; omega, by omega⟩
theorem HF.kept {W1 : World} {g dg r mb lb : Nat} {d : Ds} {B : Nat} {R : Nat → Prop} {D : Option Addr} {c : Nat} {L : List (List UInt8)} {x : Rk} (h2 : Hd22 d m L) (hn : L.length < m) (x1 : Ext W W1) (lo : ∀ i, Pl23 g dg r mb lb (Value.ownBlock (.slice D L.length c)) i → w.heap.size ≤ i) (h4 : ∀ i, F i → i < W.heap.size ∧ w.heap.size ≤ i ∧ ¬ Pl23 g dg r mb lb (Value.ownBlock (.slice D L.length c)) i ∧ i ≠ lg) (k : Kept w W1 W' lg g dg r mb lb d B R D c L K x) : HF F w W' lg (followL K x) m (L.length + 1) ∧ Ot (fun i => w.heap.size ≤ i ∧ ¬ F i) W W' := by
  obtain ⟨s1, s2, s3⟩ := h2.step (xs := bytesR x) (by rw [bytesR_len]; omega)
  rw [if_neg (by omega)] at s1 s3
  obtain ⟨mb', D', c', k1, k2, k3, k4⟩ := k
  have sz := x1.size
  have sz2 := k2.size
  rw [s1, if_pos rfl] at k1
  have ap : ∀ i, F i → ¬ Pl23 g dg r mb' lb (Value.ownBlock (.slice D' (d.jL L (bytesR x)).length c')) i := fun i q z => by
    obtain ⟨q1, q0, q2, _⟩ := h4 i q
    rcases z with (z | z | z | z | z) | z
    · exact q2 (.inl (.inl z))
    · exact q2 (.inl (.inr (.inl z)))
    · rcases k4 with e | e
      · exact q2 (.inl (.inr (.inr (.inl (z.trans e)))))
      · omega
    · exact q2 (.inl (.inr (.inr (.inr (.inl z)))))
    · rcases k3 with e | ⟨y, e, hy⟩
      · exact q2 (.inl (.inr (.inr (.inr (.inr (e.symm.trans z))))))
      · rw [e] at z
        have := Option.some.inj z
        omega
    · exact q2 (.inr z)
  rw [s3] at k1 s2 ap
  refine ⟨⟨g, dg, r, mb', lb, _, B, R, D', c', _, k1, s2, by simp, fun i q => ⟨by have := (h4 i q).1; omega, (h4 i q).2.1, ap i q, (h4 i q).2.2.2⟩⟩, (Ot.of_ext x1).trans (k2.mono fun i _ q => ⟨lo i q, fun z => (h4 i z).2.2.1 q⟩)⟩
theorem HF.add (h : HF F w W lg K m n) (hn : n < m) (hm : m ≤ 64) {a i t : Nat} (ha : a < 8) (hi : i ≤ 1000000) (ht : t ≤ 1000000) (hs : findS K (i : Int) = none) :
    Calls Try.prog 30 #[.pointer (some ⟨lg, 0, none⟩), .int .i64 (a : Int), .int .i64 (i : Int), .int .i64 (t : Int)] W fun e W' => e = .returned (.int .i64 0) ∧ HF F w W' lg (K ++ [⟨i, a, t, false⟩]) m (n + 1) ∧ Ot (fun i => w.heap.size ≤ i ∧ ¬ F i) W W' := by
  obtain ⟨g, dg, r, mb, lb, d, B, R, D, c, L, h1, h2, rfl, h4⟩ := h
  obtain ⟨s1, _, _⟩ := h2.step (xs := bytesR ⟨1, a, i, t⟩) (by rw [bytesR_len]; omega)
  rw [if_neg (by omega)] at s1
  refine (sadd_ok h1 (by omega) ha hi ht hs).mono ?_
  rintro e W' ⟨he, W1, x1, k⟩
  rw [s1] at he
  have := HF.kept h2 hn x1 h1.low h4 k
  unfold followL at this
  dsimp only at this
  rw [if_pos rfl, hs] at this
  exact ⟨he, this⟩
theorem HF.twice (h : HF F w W lg K m n) {a i t : Nat} (ha : a < 8) (hi : i ≤ 1000000) (ht : t ≤ 1000000) {s : Sk} (hs : findS K (i : Int) = some s) :
    Calls Try.prog 30 #[.pointer (some ⟨lg, 0, none⟩), .int .i64 (a : Int), .int .i64 (i : Int), .int .i64 (t : Int)] W fun e W' => e = .returned (.int .i64 9) ∧ HF F w W' lg K m n ∧ Ot (fun i => w.heap.size ≤ i ∧ ¬ F i) W W' := by
  obtain ⟨g, lb, l⟩ := h.hs.led
  refine (sadd_twice l ha hi ht hs).mono fun e W' q => ⟨q.1, h.ext q.2, Ot.of_ext q.2⟩
end
end Go.Proofs.Yteaoacinhdjkeaa
end

section
/-
  A slice that reads as a list of numbers ('Is'). No conditions.
-/
namespace Go.Proofs.Yteaoacinhdjkeaa
open Go.ChangeShapes Go.WideShapes Go.ChangeAt Go.RowKit Go.Deep

/-- The number at place k. -/
def nat_at (zs : List Int) (k : Nat) : Int := zs.getD k 0
/-- The slice '.slice A n c' reads as the numbers zs. -/
def Is (w : World) (A : Option Addr) (n c : Nat) (zs : List Int) : Prop :=
  zs.length = n ∧ n ≤ c ∧ c ≤ maxLen ∧ (0 < n → ∃ b off, A = some ⟨b, off, none⟩ ∧ b < w.heap.size ∧ ∀ j, j < n → w.cell? ⟨b, off + j, none⟩ = some (.int .i64 (nat_at zs j)) ∧ -9223372036854775808 ≤ nat_at zs j ∧ nat_at zs j ≤ 9223372036854775807)
section
variable {w w' : World} {A : Option Addr} {n c : Nat} {zs : List Int}
theorem Is.len (h : Is w A n c zs) : zs.length = n := h.1
theorem Is.le (h : Is w A n c zs) : n ≤ c := h.2.1
theorem Is.cap (h : Is w A n c zs) : c ≤ 9223372036854775807 := h.2.2.1
theorem Is.nil (w : World) : Is w none 0 0 [] := ⟨rfl, Nat.le_refl _, Nat.zero_le _, fun h => absurd h (by omega)⟩
theorem Is.pos (h : Is w A n c zs) (hn : 0 < n) : ∃ b off, A = some ⟨b, off, none⟩ ∧ b < w.heap.size ∧ ∀ j, j < n → w.cell? ⟨b, off + j, none⟩ = some (.int .i64 (nat_at zs j)) ∧ -9223372036854775808 ≤ nat_at zs j ∧ nat_at zs j ≤ 9223372036854775807 := h.2.2.2 hn
theorem Is.ext (h : Is w A n c zs) (he : Ext w w') : Is w' A n c zs :=
  ⟨h.1, h.2.1, h.2.2.1, fun hn => by
    obtain ⟨b, off, e, hb, hc⟩ := h.2.2.2 hn
    exact ⟨b, off, e, Nat.lt_of_lt_of_le hb he.size, fun j hj => ⟨(he.cell hb).trans (hc j hj).1, (hc j hj).2⟩⟩⟩
end

section
variable {H : Type} {enc : TypeId × Value → H} {W : World} {P : Program}
theorem ints_of_trod {t e : TypeId} {a : Option Addr} {len cap : Nat} {d : DataW H} {p : List MemPlace} (ht : P.underlying t = some (.slice e)) (he : P.underlying e = some (.int .i64)) (hc : P.cellsOf e = 1)
    (h : DataW.Trod enc P W 0 (fun _ => true) true t (.slice a len cap) d p) : ∃ zs, Is W a len cap zs := by
  obtain ⟨fuel, hf⟩ := h
  rcases open_ints ht he hc hf with ⟨hcs, _⟩ | ⟨x, l, c, zs, hcs, _, hl, hm, hz, _, hcell, hwz⟩
  · simp [Value.cells] at hcs
    obtain ⟨rfl, rfl, rfl⟩ := hcs
    exact ⟨[], Is.nil W⟩
  · simp [Value.cells] at hcs
    obtain ⟨rfl, rfl, rfl⟩ := hcs
    have hz' : zs.length = cap := by simpa using hz
    refine ⟨zs.take len, by simp; omega, hl, hm, fun h0 => ?_⟩
    obtain ⟨b, off, rfl, hcl⟩ := ints_at hcell (by omega)
    refine ⟨b, off, rfl, ?_, fun j hj => ?_⟩
    · have := hcl 0 (by omega)
      exact World.block_lt_of_cell? W _ this
    · have hj' : j < zs.length := by omega
      have hb : -9223372036854775808 ≤ zs[j] ∧ zs[j] ≤ 9223372036854775807 := by simpa [Lit.wf, IntKind.min, IntKind.max, IntKind.signed, IntKind.bits] using hwz _ (List.getElem_mem hj')
      have e : nat_at (zs.take len) j = zs[j] := by simp [nat_at, List.getD, hj', hj]
      rw [e]
      refine ⟨?_, hb⟩
      rw [hcl j hj']
      simp [List.getD, hj']
end
end Go.Proofs.Yteaoacinhdjkeaa
end

section
/-
  A slice that reads as bools. No conditions.
-/
namespace Go.Proofs.Yteaoacinhdjkeaa
open Go.ChangeShapes Go.WideShapes Go.ChangeAt Go.RowKit Go.Deep

/-- The slice '.slice A n c' reads as the bools f 0, f 1 .. -/
def Bls (w : World) (A : Option Addr) (n c : Nat) (f : Nat → Bool) : Prop :=
  n ≤ c ∧ c ≤ maxLen ∧ (0 < n → ∃ b off, A = some ⟨b, off, none⟩ ∧ b < w.heap.size ∧ ∀ j, j < n → w.cell? ⟨b, off + j, none⟩ = some (.bool (f j)))
theorem Bls.ext {w w' : World} {A : Option Addr} {n c : Nat} {f : Nat → Bool} (h : Bls w A n c f) (he : Ext w w') : Bls w' A n c f :=
  ⟨h.1, h.2.1, fun hn => by
    obtain ⟨b, off, e, hb, hc⟩ := h.2.2 hn
    exact ⟨b, off, e, Nat.lt_of_lt_of_le hb he.size, fun j hj => (he.cell hb).trans (hc j hj)⟩⟩
section
variable {H : Type} {enc : TypeId × Value → H} {W : World} {P : Program}
theorem bools_of_trod {t e : TypeId} {a : Option Addr} {len cap : Nat} {d : DataW H} {p : List MemPlace} (ht : P.underlying t = some (.slice e)) (he : P.underlying e = some .bool) (hc : P.cellsOf e = 1)
    (h : DataW.Trod enc P W 0 (fun _ => true) true t (.slice a len cap) d p) : ∃ f, Bls W a len cap f := by
  obtain ⟨fuel, hf⟩ := h
  rcases open_bools ht he hc hf with ⟨hcs, _⟩ | ⟨x, l, c, B, hcs, _, hl, hm, _, hcell⟩
  · simp [Value.cells] at hcs
    obtain ⟨rfl, rfl, rfl⟩ := hcs
    exact ⟨fun _ => false, Nat.le_refl _, Nat.zero_le _, fun h => absurd h (by omega)⟩
  · simp [Value.cells] at hcs
    obtain ⟨rfl, rfl, rfl⟩ := hcs
    refine ⟨B, hl, hm, fun h0 => ?_⟩
    obtain ⟨b, off, spot⟩ := x
    have g0 := hcell 0 (by omega)
    have hspot : spot = none := by simpa [Addr.add] using World.cell?_spot g0
    subst hspot
    have ad : ∀ j, (⟨b, off, none⟩ : Addr).add j = ⟨b, off + j, none⟩ := fun j => by unfold Addr.add; split <;> simp_all
    refine ⟨b, off, rfl, ?_, fun j hj => ?_⟩
    · rw [ad] at g0
      exact World.block_lt_of_cell? W _ g0
    · have := hcell j (by omega)
      rwa [ad] at this
end
end Go.Proofs.Yteaoacinhdjkeaa
end
