import Derived.Test.YtbnjmmefnjoofaaDoorAw20
import Derived.Test.YtbnjmmefnjoofaaDoorBase
import Derived.Deep.Grids
section
/-
  What a law of layer 20 has in memory: a relay, an envelope of one byte, a tag.
-/
namespace Go.Proofs.YtbnjmmefnjoofaaDoor
open Go.ChangeShapes Go.WideShapes Go.ChangeAt Go.RowKit Go.Deep Go.Maps
set_option maxRecDepth 100000

/-- A relay that was begun since w, and what stands beside it. -/
structure Lp (w W : World) (g : Nat) (root : List UInt8) (f : Nat → Option Ac) (N : Nat) : Prop where
  ry : RY w.heap.size W g root 5 f N
  xt : Ext w W
/-- An envelope of one byte in block r, and a tag in block gT. -/
structure Ep (w W : World) (r : Nat) (i j : Nat) (A : Option Addr) (x : UInt8) (gT : Nat) (tag : List UInt8) : Prop where
  ev : Cb W r 37 (xvC i j A)
  bs : BsB w.heap.size W A 1 1 [x]
  kt : Ky W gT tag
section
variable {w W W' : World} {g N N' r i j gT : Nat} {root tag : List UInt8} {f f' : Nat → Option Ac} {A : Option Addr} {x : UInt8}
theorem Lp.ext (h : Lp w W g root f N) (e : Ext W W') : Lp w W' g root f N := ⟨h.ry.ext e, h.xt.trans e⟩
theorem Lp.tm (h : Lp w W g root f N) (r' : RY w.heap.size W' g root 5 f' N') (t : Tm w.heap.size tagY W W') : Lp w W' g root f' N' := ⟨r', Tm.ext h.xt t⟩
theorem Lp.size (h : Lp w W g root f N) : w.heap.size ≤ W.heap.size := h.xt.size
theorem Ep.ext (h : Ep w W r i j A x gT tag) (e : Ext W W') : Ep w W' r i j A x gT tag := ⟨h.ev.ext e, h.bs.ext e, h.kt.ext e⟩
theorem Ep.tm (h : Ep w W r i j A x gT tag) (t : Tm w.heap.size tagY W W') : Ep w W' r i j A x gT tag := ⟨t.cb h.ev rfl, h.bs.tm t, ⟨t.row h.kt.1 rfl, h.kt.2⟩⟩
theorem Lp.send (h : Lp w W g root f N) (e : Ep w W r i j A x gT tag) (hN : N ≤ 100000) {a b : Ac} (ha : f i = some a) (hl : a.lk = linkL (i : Int)) (hb : f j = some b) (i8 : i < 8) (j8 : j < 8) (hij : i ≠ j) {now : Int} (n0 : 0 ≤ now) (n1 : now ≤ 1000000) {tg : TypeId × Nat × Nat} (hG : Gl w tg) :
    Calls Tryd.prog 25 #[.pointer (some ⟨g, 0, none⟩), .agg (xvC i j A).toArray, .agg (cellsOf tag).toArray, .int .i64 now] W fun e w' => ∃ (s : Sm) (er : Int) (f' : Nat → Option Ac), e = .returned (.tuple #[.agg s.C.toArray, .int .i64 er]) ∧ s.ok ∧ Lp w w' g root f' (N + 1) ∧ Tm w.heap.size tagY W w' ∧ StepS f f' i j a b root tag x now s er :=
  (send_std h.ry h.size hN ha hl hb i8 j8 hij e.bs e.kt.2 n0 n1 (hG.kept h.xt hG.lt) hG.lt).mono fun e w' ⟨s, er, f', h1, h2, h3, h4, h5⟩ => ⟨s, er, f', h1, h2, h.tm h3 h4, h4, h5⟩
end
/-- One who is not suspended, to a box with room, at a time that is not past. -/
theorem StepS.rate {f f' : Nat → Option Ac} {i j : Nat} {a b : Ac} {root tag : List UInt8} {x : UInt8} {now : Int} {s : Sm} {er : Int} (h : StepS f f' i j a b root tag x now s er) (hm : macL (linkL (i : Int)) (xvL i j x) = tag) (ho : a.out = false) (hL : b.L.length < 8) (h1 : a.t ≤ now) (h2 : now ≤ 1000000) :
    (bkAt 5 10 a.t a.k now = 0 ∧ er = 10 ∧ f' = upd f i (some { a with t := now, k := 0 })) ∨
    (bkAt 5 10 a.t a.k now ≠ 0 ∧ er = 0 ∧ s = mkS root 5 (i : Int) (j : Int) zk now ∧ ∃ A' c', f' = upd (upd f i (some { a with t := now, k := bkAt 5 10 a.t a.k now - 1 })) j (some { b with L := b.L ++ [⟨(mlOf (i : Int) (j : Int) zk zk 0 0 [x] s).as (b.last + 1), A', c'⟩], last := b.last + 1 })) := by
  rcases h with ⟨q, _⟩ | ⟨_, q, _⟩ | ⟨_, _, q, _⟩ | ⟨_, _, _, et, t', k', q1, q2, q3⟩
  · exact absurd hm q
  · rw [ho] at q; cases q
  · omega
  · unfold bkTake at q1
    rw [if_neg (by omega), if_neg (by omega)] at q1
    by_cases hq : bkAt 5 10 a.t a.k now = 0
    · rw [if_pos hq] at q1
      injection q1 with z1 z2
      injection z2 with z2 z3
      subst z1 z2 z3
      rcases q3 with ⟨_, q⟩ | ⟨q, _⟩
      · exact .inl ⟨hq, q2, q⟩
      · cases q
    · rw [if_neg hq] at q1
      injection q1 with z1 z2
      injection z2 with z2 z3
      subst z1 z2 z3
      rcases q3 with ⟨q, _⟩ | ⟨_, qs, A', c', q⟩
      · exact absurd rfl q
      · exact .inr ⟨hq, q2, qs, A', c', q⟩
theorem bkAt_same {m v t k : Int} (h : k ≤ m) : bkAt m v t k t = k := by
  unfold bkAt
  rw [Int.sub_self, Int.add_zero, if_neg (by omega)]
/-- A box of one is let go. -/
theorem ak_one {x : Wm} {last : Int} (h1 : x.d.id = last) (h2 : 1 ≤ last) : akE [x] last last = 0 ∧ akL [x] last last = [] := by
  have hh : hasI last [x] = true := by unfold hasI; simp [h1]
  have hn : ¬(last < 1 ∨ last < last) := by omega
  refine ⟨?_, ?_⟩
  · unfold akE
    rw [if_neg hn, hh]
    rfl
  · unfold akL
    rw [if_neg hn, dropI, if_pos h1]
theorem ak_nil {last id : Int} : akL [] last id = [] := by
  unfold akL
  split <;> rfl
end Go.Proofs.YtbnjmmefnjoofaaDoor
end

section
/-
  A slice that reads as bools. No conditions.
-/
namespace Go.Proofs.YtbnjmmefnjoofaaDoor
open Go.ChangeShapes Go.WideShapes Go.ChangeAt Go.RowKit Go.Deep

/-- The slice '.slice A n c' reads as the bools f 0, f 1 .. -/
def Bls (w : World) (A : Option Addr) (n c : Nat) (f : Nat → Bool) : Prop :=
  n ≤ c ∧ c ≤ maxLen ∧ (0 < n → ∃ b off, A = some ⟨b, off, none⟩ ∧ b < w.heap.size ∧ ∀ j, j < n → w.cell? ⟨b, off + j, none⟩ = some (.bool (f j)))
theorem Bls.ext {w w' : World} {A : Option Addr} {n c : Nat} {f : Nat → Bool} (h : Bls w A n c f) (he : Ext w w') : Bls w' A n c f :=
  ⟨h.1, h.2.1, fun hn => by
    obtain ⟨b, off, e, hb, hc⟩ := h.2.2 hn
    exact ⟨b, off, e, Nat.lt_of_lt_of_le hb he.size, fun j hj => (he.cell hb).trans (hc j hj)⟩⟩
section
variable {H : Type} {enc : TypeId × Value → H} {W : World} {P : Program}
theorem bools_of_trod {t e : TypeId} {a : Option Addr} {len cap : Nat} {d : DataW H} {p : List MemPlace} (ht : P.underlying t = some (.slice e)) (he : P.underlying e = some .bool) (hc : P.cellsOf e = 1)
    (h : DataW.Trod enc P W 0 (fun _ => true) true t (.slice a len cap) d p) : ∃ f, Bls W a len cap f := by
  obtain ⟨fuel, hf⟩ := h
  rcases open_bools ht he hc hf with ⟨hcs, _⟩ | ⟨x, l, c, B, hcs, _, hl, hm, _, hcell⟩
  · simp [Value.cells] at hcs
    obtain ⟨rfl, rfl, rfl⟩ := hcs
    exact ⟨fun _ => false, Nat.le_refl _, Nat.zero_le _, fun h => absurd h (by omega)⟩
  · simp [Value.cells] at hcs
    obtain ⟨rfl, rfl, rfl⟩ := hcs
    refine ⟨B, hl, hm, fun h0 => ?_⟩
    obtain ⟨b, off, spot⟩ := x
    have g0 := hcell 0 (by omega)
    have hspot : spot = none := by simpa [Addr.add] using World.cell?_spot g0
    subst hspot
    have ad : ∀ j, (⟨b, off, none⟩ : Addr).add j = ⟨b, off + j, none⟩ := fun j => by unfold Addr.add; split <;> simp_all
    refine ⟨b, off, rfl, ?_, fun j hj => ?_⟩
    · rw [ad] at g0
      exact World.block_lt_of_cell? W _ g0
    · have := hcell j (by omega)
      rwa [ad] at this
end
end Go.Proofs.YtbnjmmefnjoofaaDoor
end
