/-
  Envelopes of one byte, sent among a law's accounts.
-/
import Derived.Test.YtbnjmmefnjoofaaDoorLw20
namespace Go.Proofs.YtbnjmmefnjoofaaDoor
open Go.ChangeShapes Go.WideShapes Go.ChangeAt Go.RowKit Go.Deep Go.Maps
set_option maxRecDepth 100000

/-- An envelope of one byte. -/
def xvL (f t : Nat) (x : UInt8) : List UInt8 := enX (f : Int) (t : Int) zk zk 0 0 [x]
def xvC (f t : Nat) (A : Option Addr) : List Value := evC (f : Int) (t : Int) zk zk 0 0 A 1 1
theorem xv_built1 (A : Option Addr) : Tryd.prog.built 37 [(0, .int .i64 1), (1, .int .i64 2), (4, .slice A 1 1)] = some (xvC 1 2 A).toArray := by kernel_rfl
theorem xv_built0 (A : Option Addr) : Tryd.prog.built 37 [(0, .int .i64 0), (1, .int .i64 1), (4, .slice A 1 1)] = some (xvC 0 1 A).toArray := by kernel_rfl
theorem xvC_len (f t : Nat) (A : Option Addr) : (xvC f t A).length = 69 := evC_len zk_len zk_len _ _ _ _ _ _ _
theorem xvC_one (f t : Nat) (A : Option Addr) : (xvC f t A).toArray.all (·.oneCell') = true := one_cells one_ev
def zE : List Value := evC 0 0 zk zk 0 0 none 0 0
theorem zE_len : zE.length = 69 := evC_len zk_len zk_len _ _ _ _ _ _ _
theorem env_alloc20 (w : World) : (zeroValue 37).run Tryd.prog w = .ok (.agg zE.toArray) w := by kernel_rfl
theorem xv_ok {f t : Nat} (hf : f ≤ 7) (ht : t ≤ 7) : okE (f : Int) (t : Int) 0 0 1 = true := by
  unfold okE okH upB
  simp only [Bool.and_eq_true, decide_eq_true_eq]
  omega
theorem xv_tag {f t : Nat} (hf : f ≤ 7) (ht : t ≤ 7) (lk : List UInt8) (x : UInt8) : tgL lk (f : Int) (t : Int) zk zk 0 0 [x] = macL lk (xvL f t x) ∧ enE (f : Int) (t : Int) 0 0 1 = 0 := tgE_facts.1 (xv_ok hf ht)
theorem xtag_calls {w : World} {n f t : Nat} (hf : f ≤ 7) (ht : t ≤ 7) {x : UInt8} {A : Option Addr} (hb : Bs w A 1 1 [x]) {tg : TypeId × Nat × Nat} (hG : Gl w tg) : Calls Tryd.prog 23 #[.agg (cellsOf (linkL (n : Int))).toArray, .agg (xvC f t A).toArray] w fun e w' => e = .returned (.tuple #[.agg (cellsOf (macL (linkL (n : Int)) (xvL f t x))).toArray, .int .i64 0]) ∧ Ext w w' := by
  have := tag20_calls (lk := linkL (n : Int)) (kyL_len (n : Int) 77) (f := (f : Int)) (t := (t : Int)) (p := 0) (n := 0) zk_len zk_len hb hG
  rw [(xv_tag hf ht _ _).1, (xv_tag hf ht [] 0).2] at this
  exact this
theorem aw20_mac : macL (linkL ((1 : Nat) : Int)) (xvL 1 2 120) ≠ zk := by decide +kernel
theorem BsB.boxed8 {B : Nat} (w : World) (x : UInt8) (v : Int) (hv : v = (x.toNat : Int)) (fr : Nat × Nat) : BsB B (w.alloc (.cells #[.int .u8 v] 5 fr)) (some ⟨w.heap.size, 0, none⟩) 1 1 [x] := ⟨Bs.of_list (xs := [x]) (by rw [hv]; rfl) (heap_alloc_new _ _) ⟨rfl, by omega⟩, fun _ q hq => by
  injection hq with hq
  subst hq
  exact .inr ⟨_, _, heap_alloc_new _ _⟩⟩
/-- What a Send among accounts of the law does. -/
def StepS (f f' : Nat → Option Ac) (i j : Nat) (a b : Ac) (root : List UInt8) (tag : List UInt8) (x : UInt8) (now : Int) (s : Sm) (er : Int) : Prop :=
  (macL (linkL (i : Int)) (xvL i j x) ≠ tag ∧ er = 4 ∧ f' = f) ∨
  (macL (linkL (i : Int)) (xvL i j x) = tag ∧ a.out = true ∧ er = 11 ∧ f' = f) ∨
  (macL (linkL (i : Int)) (xvL i j x) = tag ∧ a.out = false ∧ 8 ≤ b.L.length ∧ er = 8 ∧ f' = f) ∨
  (macL (linkL (i : Int)) (xvL i j x) = tag ∧ a.out = false ∧ b.L.length < 8 ∧ ∃ et t' k' : Int, bkTake 5 10 a.t a.k now = (et, t', k') ∧ er = et ∧
    ((et ≠ 0 ∧ f' = upd f i (some { a with t := t', k := k' })) ∨
     (et = 0 ∧ s = mkS root 5 (i : Int) (j : Int) zk now ∧ ∃ A' c', f' = upd (upd f i (some { a with t := t', k := k' })) j (some { b with L := b.L ++ [⟨(mlOf (i : Int) (j : Int) zk zk 0 0 [x] s).as (b.last + 1), A', c'⟩], last := b.last + 1 }))))
theorem send_std {w : World} {B g N : Nat} {root : List UInt8} {f : Nat → Option Ac} (h : RY B w g root 5 f N) (hB : B ≤ w.heap.size) (hN : N ≤ 100000) {i j : Nat} {a b : Ac} (ha : f i = some a) (hl : a.lk = linkL (i : Int)) (hb : f j = some b) (i8 : i < 8) (j8 : j < 8) (hij : i ≠ j) {x : UInt8} {A : Option Addr} (hA : BsB B w A 1 1 [x]) {tag : List UInt8} (ht : tag.length = 32) {now : Int} (n0 : 0 ≤ now) (n1 : now ≤ 1000000) {tg : TypeId × Nat × Nat} (hG : Gl w tg) (hgB : 0 < B) :
    Calls Tryd.prog 25 #[.pointer (some ⟨g, 0, none⟩), .agg (xvC i j A).toArray, .agg (cellsOf tag).toArray, .int .i64 now] w fun e w' => ∃ (s : Sm) (er : Int) (f' : Nat → Option Ac), e = .returned (.tuple #[.agg s.C.toArray, .int .i64 er]) ∧ s.ok ∧ RY B w' g root 5 f' (N + 1) ∧ Tm B tagY w w' ∧ StepS f f' i j a b root tag x now s er := by
  refine (send_calls (fr := (i : Int)) (tw := (j : Int)) (p := 0) (n := 0) (now := now) h hB hN zk_len zk_len ht hA (by omega) (by omega) (by omega) (by omega) (by omega) (by omega) hG hgB).mono ?_
  rintro e w' ⟨p1, p2⟩
  rw [xv_ok (by omega) (by omega)] at p1 p2
  have E := adE_in (tg := tag) (X := enX (i : Int) (j : Int) zk zk 0 0 [x]) (now := now) (ok := true) rfl (by omega) ha i8 hb j8
  rw [hl] at E
  have EX : Ext w w' → Tm B tagY w w' := Tm.of_ext
  by_cases hm : macL (linkL (i : Int)) (xvL i j x) = tag
  · rw [if_pos (show macL (linkL (i : Int)) (enX (i : Int) (j : Int) zk zk 0 0 [x]) = tag from hm)] at E
    rcases ho : a.out with _ | _
    · rw [ho] at E
      replace E : adE f true (i : Int) (j : Int) (enX (i : Int) (j : Int) zk zk 0 0 [x]) tag now = if 8 ≤ b.L.length then 8 else 0 := E
      by_cases h8 : 8 ≤ b.L.length
      · rw [if_pos h8] at E
        obtain ⟨q1, q2⟩ := p1 (by rw [E]; decide)
        rw [E] at q1
        exact ⟨zSm, 8, f, q1, zSm_ok, (h.ext q2).more (Nat.le_succ N), EX q2, .inr (.inr (.inl ⟨hm, ho, h8, rfl, rfl⟩))⟩
      · rw [if_neg h8] at E
        obtain ⟨et, t', k', hbt⟩ : ∃ et t' k', bkTake 5 10 a.t a.k now = (et, t', k') := ⟨_, _, _, rfl⟩
        obtain ⟨q1, q2⟩ := p2 E i j a b rfl rfl ha hb et t' k' hbt
        by_cases het : et = 0
        · obtain ⟨z1, ⟨A', c', z2⟩, z3⟩ := q2 het
          exact ⟨_, 0, _, z1, mkS_ok _ _ _ _ _ zk_len, z2, z3, .inr (.inr (.inr ⟨hm, ho, by omega, et, t', k', hbt, het.symm, .inr ⟨het, rfl, A', c', rfl⟩⟩))⟩
        · obtain ⟨z1, z2, z3⟩ := q1 het
          exact ⟨zSm, et, _, z1, zSm_ok, z2.more (Nat.le_succ N), z3, .inr (.inr (.inr ⟨hm, ho, by omega, et, t', k', hbt, rfl, .inl ⟨het, rfl⟩⟩))⟩
    · rw [ho] at E
      replace E : adE f true (i : Int) (j : Int) (enX (i : Int) (j : Int) zk zk 0 0 [x]) tag now = 11 := E
      obtain ⟨q1, q2⟩ := p1 (by rw [E]; decide)
      rw [E] at q1
      exact ⟨zSm, 11, f, q1, zSm_ok, (h.ext q2).more (Nat.le_succ N), EX q2, .inr (.inl ⟨hm, ho, rfl, rfl⟩)⟩
  · rw [if_neg (show ¬ macL (linkL (i : Int)) (enX (i : Int) (j : Int) zk zk 0 0 [x]) = tag from hm)] at E
    obtain ⟨q1, q2⟩ := p1 (by rw [E]; decide)
    rw [E] at q1
    exact ⟨zSm, 4, f, q1, zSm_ok, (h.ext q2).more (Nat.le_succ N), EX q2, .inl ⟨hm, rfl, rfl⟩⟩
end Go.Proofs.YtbnjmmefnjoofaaDoor
