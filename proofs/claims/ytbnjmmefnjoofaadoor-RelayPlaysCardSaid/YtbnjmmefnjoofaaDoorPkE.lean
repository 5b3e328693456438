import Derived.Test.YtbnjmmefnjoofaaDoorRw20c
import Derived.Test.YtbnjmmefnjoofaaDoorPkO
section
/-
  The document's relay: Register.
-/
namespace Go.Proofs.YtbnjmmefnjoofaaDoor
open Go.ChangeShapes Go.WideShapes Go.ChangeAt Go.RowKit Go.Deep Go.Maps
set_option maxRecDepth 100000

section
variable {B g ticks N : Nat} {w : World} {root : List UInt8} {h : Nat → Option Ra}
variable {lk ib sb ob : List UInt8} {ho : Bool} {A : Option Addr} {m c : Nat} {K : List (List UInt8)}
set_option maxHeartbeats 4000000 in
theorem rwreg_arg {n : Int} {bun : List Value} (hn : n < 0 ∨ 8 ≤ n ∨ 8 < m) (h1 : -9223372036854775808 ≤ n) (h2 : n ≤ 9223372036854775807) (hm : m ≤ 9223372036854775807) : Calls Tryd.prog 29 #[.pointer (some ⟨g, 0, none⟩), .int .i64 n, .agg (cellsOf lk).toArray, .agg bun.toArray, .slice A m c] w fun e w' => e = .returned (.int .i64 1) ∧ Ext w w' := by
  have X := Lib.hid (two_box w (cellsOf lk) bun)
  by_cases q1 : n < 0
  · have u1 : decide (n < 0) = true := decide_eq_true q1
    clear hn
    go_enter Tryd.func29, Tryd.ntmps29
    go_wp2_with fail
    go_ret
    exact ⟨rfl, X.out⟩
  have u1 : decide (n < 0) = false := decide_eq_false q1
  by_cases q2 : 7 < n
  · have u2 : decide (7 < n) = true := decide_eq_true q2
    clear hn
    go_enter Tryd.func29, Tryd.ntmps29
    go_wp2_with fail
    go_ret
    exact ⟨rfl, X.out⟩
  have u2 : decide (7 < n) = false := decide_eq_false q2
  have q3 : 8 < m := by omega
  have u3 : decide ((8 : Int) < (m : Int)) = true := decide_eq_true (by omega)
  clear hn
  go_enter Tryd.func29, Tryd.ntmps29
  go_wp2_with fail
  go_ret
  exact ⟨rfl, X.out⟩
set_option maxHeartbeats 4000000 in
theorem rwreg_twice {bun : List Value} (k : RW B w g root ticks h N) {j : Nat} {a : Ra} (hj : h j = some a) (j8 : j < 8) (m8 : m ≤ 8) : Calls Tryd.prog 29 #[.pointer (some ⟨g, 0, none⟩), .int .i64 (j : Int), .agg (cellsOf lk).toArray, .agg bun.toArray, .slice A m c] w fun e w' => e = .returned (.int .i64 9) ∧ Ext w w' := by
  have X := Lib.hid (two_box w (cellsOf lk) bun)
  have k2 := k.ext X.out
  have c0 := k2.cells.1.cell (rwC_at k2.cells.2 ticks h j8)
  rw [show rp h j = .pointer (some ⟨a.bk, 0, none⟩) by unfold rp; rw [hj]; rfl] at c0
  generalize a.bk = bk at *
  have u1 : decide ((j : Int) < 0) = false := decide_eq_false (by omega)
  have u2 : decide (7 < (j : Int)) = false := decide_eq_false (by omega)
  have u3 : decide ((8 : Int) < (m : Int)) = false := decide_eq_false (by omega)
  clear k hj k2
  go_enter Tryd.func29, Tryd.ntmps29
  go_wp2_with fail
  go_ret
  exact ⟨rfl, X.out⟩
/-- The one that is registered. -/
def newR (bk : Nat) (lk ib sb ob : List UInt8) (ho : Bool) (A : Option Addr) (n c : Nat) (K : List (List UInt8)) (bx tk : Nat) : Ra := ⟨bk, lk, ib, sb, ob, ho, A, n, c, K, bx, tk, false, [], 0, 0, 5⟩
/-- What is laid for it. -/
def Ra.new (a : Ra) (w w' : World) : Prop := a.lens ∧ Cb w' a.bk 100 a.C ∧ Kc w' a.A a.n a.c a.K ∧ (∀ P, MBP 96 101 P w' a.bx [] 0) ∧ Rk w' a.tk 5 10 0 5 ∧ (w.heap.size ≤ a.bk ∧ w.heap.size ≤ a.bx ∧ w.heap.size ≤ a.tk) ∧ Ext w w'
theorem RW.reg (k : RW B w g root ticks h N) (hB : B ≤ w.heap.size) {bk : Nat} {A : Option Addr} {n c : Nat} {bx tk j : Nat} {w2 : World} (hn : (newR bk lk ib sb ob ho A n c K bx tk).new w w2) (j8 : j < 8) (hf : h j = none) :
    RW B (w2.setCell ⟨g, 33 + j, none⟩ (.pointer (some ⟨bk, 0, none⟩))) g root ticks (updR h j (some (newR bk lk ib sb ob ho A n c K bx tk))) N ∧ Tb B tagX w (w2.setCell ⟨g, 33 + j, none⟩ (.pointer (some ⟨bk, 0, none⟩))) := by
  obtain ⟨own, k⟩ := k
  obtain ⟨ln, hcb, ks, mbp, hbu, ⟨b1, b2, b3⟩, x⟩ := hn
  have kc2 : Cb w2 g 90 (rwC root ticks h) := (x.block _ k.cb.lt).trans k.cb
  have hx : w2.grownBy (w2.setCell ⟨g, 33 + j, none⟩ (.pointer (some ⟨bk, 0, none⟩))) (some g) := (World.grownBy.refl w2 _).set _ _
  have KT : ∀ (i : Nat) (cs : Array Value) (t : TypeId), w2.heap[i]? = some (Obj.cells cs t (0, 0)) → t ≠ 90 → (w2.setCell ⟨g, 33 + j, none⟩ (.pointer (some ⟨bk, 0, none⟩))).heap[i]? = some (Obj.cells cs t (0, 0)) := fun i cs t y z => (hx.block i (heap_lt y) fun q => cells_ne y kc2 z (Option.some.inj q)).trans y
  have KO : ∀ i l, fresh own w j i = some l → B ≤ i := fun i l hi => by
    by_cases e : i < w.heap.size
    · rw [fresh_old e] at hi; exact k.ow i l hi
    · omega
  refine ⟨⟨fresh own w j, ?_, k.lr, k.ti, fun l a hl => ?_, k.lo, KO⟩, (Tb.of_ext x).trans (Tb.grown hx fun q hq => ?_)⟩
  · have := kc2.setCell (o := 33 + j) (v := .pointer (some ⟨bk, 0, none⟩))
    have e := rwC_set k.lr ticks h j8 (newR bk lk ib sb ob ho A n c K bx tk)
    rw [show (newR bk lk ib sb ob ho A n c K bx tk).bk = bk from rfl] at e
    rwa [e] at this
  · by_cases e : l = j
    · subst e
      rw [updR_same] at hl
      injection hl with hl
      subst hl
      refine ⟨ln, KT _ _ _ hcb (by decide), fresh_new b1, ks.keep fun i cs y => KT i cs _ y (by decide), (mbp _).keep (fun _ _ z => z) fun i cs t y z => KT i cs t y ?_, fresh_new b2, KT _ _ _ hbu (by decide), ⟨by decide, by decide, by decide, by decide, by show (0 : Int) ≤ 0; decide, by show (0 : Int) ≤ 1000000; decide, by show (0 : Int) ≤ 5; decide, by show (5 : Int) ≤ 5; decide⟩, fresh_new b3, ⟨Nat.zero_le _, by show (0 : Int) ≤ 0; decide, by show (0 : Int) ≤ N; omega⟩⟩
      rcases z with ⟨_, rfl⟩ | ⟨_, rfl⟩ | rfl <;> decide
    · rw [updR_other _ _ e] at hl
      refine (k.ac l a hl).keep (fun i hi y => (fresh_old hi).trans y) (Nat.le_refl N) fun i cs t y z => KT i cs t ((x.block _ (heap_lt y)).trans y) ?_
      rcases z with ⟨_, z⟩ | rfl | rfl
      · intro q
        subst q
        exact absurd z (by decide)
      · decide
      · decide
  · obtain rfl := Option.some.inj hq
    refine ⟨k.lo, fun o ho' => ?_⟩
    have kc3 : w2.heap[g]? = _ := kc2
    rw [kc3] at ho'
    injection ho' with ho'
    subst ho'
    show tagX 90 = true
    decide
end
end Go.Proofs.YtbnjmmefnjoofaaDoor
end

section
/-
  Of what lay below a border just two blocks turn.
-/
namespace Go.Proofs.YtbnjmmefnjoofaaDoor
open Go.ChangeShapes Go.WideShapes Go.ChangeAt Go.RowKit Go.Deep

def Tq (B g b : Nat) (a c : World) : Prop := c.os = a.os ∧ c.tape = a.tape ∧ c.output = a.output ∧ a.heap.size ≤ c.heap.size ∧ ∀ i, i < B → i ≠ g → i ≠ b → c.heap[i]? = a.heap[i]?
theorem Tq.refl (B g b : Nat) (w : World) : Tq B g b w w := ⟨rfl, rfl, rfl, Nat.le_refl _, fun _ _ _ _ => rfl⟩
theorem Tq.trans {B g b : Nat} {x y z : World} (h : Tq B g b x y) (k : Tq B g b y z) : Tq B g b x z :=
  ⟨k.1.trans h.1, k.2.1.trans h.2.1, k.2.2.1.trans h.2.2.1, Nat.le_trans h.2.2.2.1 k.2.2.2.1, fun i hi h1 h2 => (k.2.2.2.2 i hi h1 h2).trans (h.2.2.2.2 i hi h1 h2)⟩
theorem Tq.of_two {B g b : Nat} {x y : World} (h : Two g b x y) (hB : B ≤ x.heap.size) : Tq B g b x y := ⟨h.1, h.2.1, h.2.2.1, h.2.2.2.1, fun i hi h1 h2 => h.2.2.2.2 i (Nat.lt_of_lt_of_le hi hB) h1 h2⟩
theorem Tq.of_ext {B g b : Nat} {x y : World} (h : Ext x y) (hB : B ≤ x.heap.size) : Tq B g b x y := ⟨h.os, h.tape, h.output, h.size, fun i hi _ _ => h.block i (Nat.lt_of_lt_of_le hi hB)⟩
theorem Tq.row {B g b r : Nat} (x : World) (C : Array Value) (hr : B ≤ r) : Tq B g b x (x.setRow r C) := ⟨rfl, rfl, rfl, by simp, fun i hi _ _ => setRow_other _ _ _ _ (by omega)⟩
theorem Tq.block {B g b i : Nat} {x y : World} (k : Tq B g b x y) {o : Obj} (h : x.heap[i]? = some o) (hi : i < B) (h1 : i ≠ g) (h2 : i ≠ b) : y.heap[i]? = some o := (k.2.2.2.2 i hi h1 h2).trans h
theorem Tq.ext {B g b : Nat} {w0 x y : World} (h : Ext w0 x) (k : Tq B g b x y) (hB : w0.heap.size ≤ B) (h1 : w0.heap.size ≤ g) (h2 : w0.heap.size ≤ b) : Ext w0 y :=
  Below.trans h ⟨k.1, k.2.1, k.2.2.1, k.2.2.2.1, fun i hi => k.2.2.2.2 i (Nat.lt_of_lt_of_le hi hB) (by omega) (by omega)⟩
/-- Just three blocks turn. -/
def Thr (g b r : Nat) (a c : World) : Prop := c.os = a.os ∧ c.tape = a.tape ∧ c.output = a.output ∧ a.heap.size ≤ c.heap.size ∧ ∀ i, i < a.heap.size → i ≠ g → i ≠ b → i ≠ r → c.heap[i]? = a.heap[i]?
theorem Thr.refl (g b r : Nat) (w : World) : Thr g b r w w := ⟨rfl, rfl, rfl, Nat.le_refl _, fun _ _ _ _ _ => rfl⟩
theorem Thr.trans {g b r : Nat} {x y z : World} (h : Thr g b r x y) (k : Thr g b r y z) : Thr g b r x z :=
  ⟨k.1.trans h.1, k.2.1.trans h.2.1, k.2.2.1.trans h.2.2.1, Nat.le_trans h.2.2.2.1 k.2.2.2.1, fun i hi h1 h2 h3 => (k.2.2.2.2 i (Nat.lt_of_lt_of_le hi h.2.2.2.1) h1 h2 h3).trans (h.2.2.2.2 i hi h1 h2 h3)⟩
theorem Thr.of_two {g b r : Nat} {x y : World} (h : Two g b x y) : Thr g b r x y := ⟨h.1, h.2.1, h.2.2.1, h.2.2.2.1, fun i hi h1 h2 _ => h.2.2.2.2 i hi h1 h2⟩
theorem Thr.of_grown {g b r : Nat} {x y : World} (h : x.grownBy y (some r)) : Thr g b r x y := ⟨h.os, h.tape, h.output, h.size, fun i hi _ _ h3 => h.block i hi (fun q => h3 (Option.some.inj q))⟩
theorem Thr.of_ext {g b r : Nat} {x y : World} (h : Ext x y) : Thr g b r x y := ⟨h.os, h.tape, h.output, h.size, fun i hi _ _ _ => h.block i hi⟩
theorem Thr.block {g b r i : Nat} {x y : World} (k : Thr g b r x y) {o : Obj} (h : x.heap[i]? = some o) (h1 : i ≠ g) (h2 : i ≠ b) (h3 : i ≠ r) : y.heap[i]? = some o := (k.2.2.2.2 i (heap_lt h) h1 h2 h3).trans h
theorem Thr.ext {g b r : Nat} {w0 x y : World} (h : Ext w0 x) (k : Thr g b r x y) (h1 : w0.heap.size ≤ g) (h2 : w0.heap.size ≤ b) (h3 : w0.heap.size ≤ r) : Ext w0 y :=
  Below.trans h ⟨k.1, k.2.1, k.2.2.1, k.2.2.2.1, fun i hi => k.2.2.2.2 i (Nat.lt_of_lt_of_le hi h.size) (by omega) (by omega) (by omega)⟩
theorem wp_partT {P : Program} {c : Code} {Q : Exit → Act → World → Prop} {a : Act} {A' : Nat → Act} {w : World} (F : Nat → World → Prop) (h : c.wp P (fun x a' w' => x = .normal ∧ ∃ g, a' = A' g ∧ F g w') a w) (k : ∀ W g, F g W → Q .normal (A' g) W) : c.wp P Q a w :=
  Code.wp_mono (fun _ _ _ q => by obtain ⟨rfl, g, rfl, q⟩ := q; exact k _ _ q) h
end Go.Proofs.YtbnjmmefnjoofaaDoor
end

section
/-
  The document's relay: Register of one.
-/
namespace Go.Proofs.YtbnjmmefnjoofaaDoor
open Go.ChangeShapes Go.WideShapes Go.ChangeAt Go.RowKit Go.Deep Go.Maps
set_option maxRecDepth 100000

theorem OwnC.empty {B : Nat} {w : World} {e : TypeId} {s : Nat} (hB : B ≤ w.heap.size) : OwnC B (w.alloc (.cells #[] e)) e s (some ⟨w.heap.size, 0, none⟩) 0 0 [] := ⟨World.ownsRow_made w #[] 0 hB (by unfold maxLen; omega) (by simp), fun x hx => by simp at hx, rfl⟩
theorem wp_slice_none {w : World} {o : Oper} {a : Act} {H : Act → World → Prop} {Q : Exit → Act → World → Prop} {g : Nat} (hg : w.heap.size = g)
    (ho : o.op = .buildSlice 38 0 #[])
    (h : H (a.put o.dst (.slice (some ⟨g, 0, none⟩) 0 0)) (w.alloc (.cells #[] 23))) : o.wp Tryd.prog a w H Q := by
  subst hg
  obtain ⟨i, hi, hz0, hz1, hz2⟩ := info_parts infoK
  have hr : (Instr.buildSlice 38 0 #[]).run Tryd.prog w = .ok (.slice (some ⟨w.heap.size, 0, none⟩) 0 0) (w.alloc (.cells #[] 23)) := by
    simp [Instr.buildSlice, run_underlying Tryd.underlying38, sizeOf, typeInfo, hi, Instr.fill, newRow]
    congr 2
    apply Array.ext'
    simp
  unfold Oper.wp execOp
  simp only [ho, Sem.run_bind, List.map_toArray, List.map_nil, hr, Result.andThen_ok]
  exact h
theorem Tq.of_below {B g b : Nat} {x y : World} (h : Below B x y) : Tq B g b x y := ⟨h.os, h.tape, h.output, h.size, fun i hi _ _ => h.block i hi⟩
def zR : List Value := raL zk (zk ++ (zk ++ zk)) false (.slice none 0 0) (.pointer none) (.pointer none) false
theorem account20_built {lk bb : List UInt8} {ho : Bool} (h1 : lk.length = 32) (h2 : bb.length = 96) {A : Option Addr} {n c bx tk : Nat} :
    Tryd.prog.built 100 [(0, .agg (cellsOf lk).toArray), (1, .agg (bbC bb ho).toArray), (2, .slice A n c), (3, .pointer (some ⟨bx, 0, none⟩)), (4, .pointer (some ⟨tk, 0, none⟩))] = some (raL lk bb ho (.slice A n c) (.pointer (some ⟨bx, 0, none⟩)) (.pointer (some ⟨tk, 0, none⟩)) false).toArray := by
  have h : ∃ pl : Nat → Option (Nat × Nat), (pl 0 = some (0, 32) ∧ pl 1 = some (32, 97) ∧ pl 2 = some (129, 1) ∧ pl 3 = some (130, 1) ∧ pl 4 = some (131, 1)) ∧ ∀ ps, Tryd.prog.built 100 ps = Instr.fill pl zR.toArray ps := ⟨(#[(0, 32), (32, 97), (129, 1), (130, 1), (131, 1), (132, 1)][·]?), ⟨rfl, rfl, rfl, rfl, rfl⟩, fun ps => by kernel_rfl⟩
  obtain ⟨pl, ⟨q0, q1, q2, q3, q4⟩, hp⟩ := h
  rw [hp]
  unfold zR raL
  have lz : (cellsOf zk).length = 32 := by rw [cellsOf_len]; rfl
  have lzb : (bbC (zk ++ (zk ++ zk)) false).length = 97 := by rw [bbC_len]; rfl
  have lk' : (cellsOf lk).length = 32 := by rw [cellsOf_len, h1]
  have lb' : (bbC bb ho).length = 97 := by rw [bbC_len, h2]
  generalize cellsOf zk = Z1 at *
  generalize bbC (zk ++ (zk ++ zk)) false = Z2 at *
  generalize cellsOf lk = C1 at *
  generalize bbC bb ho = C2 at *
  rw [fill_step q0 (by rw [cells_agg, List.size_toArray, lk']) (by simp [lz, lzb]), cells_agg, List.toList_toArray, splice_zero (by rw [lz, lk'])]
  rw [fill_step q1 (by rw [cells_agg, List.size_toArray, lb']) (by simp [lk', lzb]), cells_agg, List.toList_toArray, splice_mid lk' (by rw [lzb, lb'])]
  have e2 : C1 ++ (C2 ++ [Value.slice none 0 0, .pointer none, .pointer none, .bool false]) = (C1 ++ C2) ++ ([Value.slice none 0 0] ++ [.pointer none, .pointer none, .bool false]) := by simp
  rw [e2, fill_step q2 rfl (by simp [lk', lb']), show (Value.slice A n c).cells.toList = [Value.slice A n c] from rfl, splice_mid (by simp [lk', lb']) (by simp)]
  have e3 : (C1 ++ C2) ++ ([Value.slice A n c] ++ [.pointer none, .pointer none, .bool false]) = ((C1 ++ C2) ++ [Value.slice A n c]) ++ ([Value.pointer none] ++ [.pointer none, .bool false]) := by simp
  rw [e3, fill_step q3 rfl (by simp [lk', lb']), show (Value.pointer (some ⟨bx, 0, none⟩)).cells.toList = [Value.pointer (some ⟨bx, 0, none⟩)] from rfl, splice_mid (by simp [lk', lb']) (by simp)]
  have e4 : ((C1 ++ C2) ++ [Value.slice A n c]) ++ ([Value.pointer (some ⟨bx, 0, none⟩)] ++ [.pointer none, .bool false]) = (((C1 ++ C2) ++ [Value.slice A n c]) ++ [Value.pointer (some ⟨bx, 0, none⟩)]) ++ ([Value.pointer none] ++ [.bool false]) := by simp
  rw [e4, fill_step q4 rfl (by simp [lk', lb']), show (Value.pointer (some ⟨tk, 0, none⟩)).cells.toList = [Value.pointer (some ⟨tk, 0, none⟩)] from rfl, splice_mid (by simp [lk', lb']) (by simp)]
  simp [Instr.fill]
section
variable {B g ticks N : Nat} {w : World} {root : List UInt8} {h : Nat → Option Ra}
variable {lk ib sb ob : List UInt8} {ho : Bool} {A : Option Addr} {m c : Nat} {K : List (List UInt8)}
set_option maxHeartbeats 8000000 in
theorem rwreg_ok (k : RW B w g root ticks h N) (hB : B ≤ w.heap.size) {j : Nat} (hj : h j = none) (j8 : j < 8) (m8 : m ≤ 8) (h1 : lk.length = 32) (h2 : ib.length = 32) (h3 : sb.length = 32) (h4 : ob.length = 32) (hK : Cs w 32 A m c (K.map cellsOf)) : Calls Tryd.prog 29 #[.pointer (some ⟨g, 0, none⟩), .int .i64 (j : Int), .agg (cellsOf lk).toArray, .agg (bbC (ib ++ (sb ++ ob)) ho).toArray, .slice A m c] w fun e w' => e = .returned (.int .i64 0) ∧ (∃ bk A' c' bx tk, RW B w' g root ticks (updR h j (some (newR bk lk ib sb ob ho A' m c' K bx tk))) N) ∧ Tb B tagX w w' := by
  have lb : (ib ++ (sb ++ ob)).length = 96 := by simp [h2, h3, h4]
  have L_b : (bbC (ib ++ (sb ++ ob)) ho).length = 97 := by rw [bbC_len, lb]
  have AB := Lib.hid (fun (A' : Option Addr) (c' bx tk : Nat) => account20_built (ho := ho) (A := A') (n := m) (c := c') (bx := bx) (tk := tk) h1 lb)
  have AC : Hid (∀ (bk : Nat) (A' : Option Addr) (c' bx tk : Nat), (newR bk lk ib sb ob ho A' m c' K bx tk).C = raL lk (ib ++ (sb ++ ob)) ho (.slice A' m c') (.pointer (some ⟨bx, 0, none⟩)) (.pointer (some ⟨tk, 0, none⟩)) false) := fun _ _ _ _ _ => rfl
  have LN : Hid (∀ (bk : Nat) (A' : Option Addr) (c' bx tk : Nat), (newR bk lk ib sb ob ho A' m c' K bx tk).lens) := fun _ _ _ _ _ => ⟨h1, h2, h3, h4⟩
  obtain ⟨G, hG⟩ : ∃ G : Option Addr → Nat → Nat → Nat → List Value, G = fun A' c' bx tk => raL lk (ib ++ (sb ++ ob)) ho (.slice A' m c') (.pointer (some ⟨bx, 0, none⟩)) (.pointer (some ⟨tk, 0, none⟩)) false := ⟨_, rfl⟩
  have hG' : ∀ A' c' bx tk, raL lk (ib ++ (sb ++ ob)) ho (.slice A' m c') (.pointer (some ⟨bx, 0, none⟩)) (.pointer (some ⟨tk, 0, none⟩)) false = G A' c' bx tk := fun _ _ _ _ => by rw [hG]
  simp only [hG'] at AB AC
  clear hG hG'
  have BB : Hid (Tryd.prog.built 96 [] = some #[.slice none 0 0, .int .i64 0]) := by unfold Hid; kernel_rfl
  have NB := Lib.hid (fun W : World => refNew_good (m := 5) (v := 10) (w := W) (by unfold bkSet; omega))
  have O1 : Hid (∀ x ∈ K.map cellsOf, ∀ u ∈ x, u.oneCell' = true) := fun x hx u hu => by
    obtain ⟨y, _, rfl⟩ := List.mem_map.1 hx
    exact one_mem y u hu
  have IK := infoK
  have ZS := zeros32_size
  generalize zeros32 = ZZ at *
  generalize bbC (ib ++ (sb ++ ob)) ho = BC at *
  have X := Lib.hid (two_box w (cellsOf lk) BC)
  have S_k : (cellsOf lk).toArray.size = 32 := by simp [cellsOf_len, h1]
  have S_b : BC.toArray.size = 97 := by rw [List.size_toArray, L_b]
  obtain ⟨r, hr⟩ : ∃ x, x = w.heap.size := ⟨_, rfl⟩
  have B0 : Hid (Ky ((w.alloc (.cells (cellsOf lk).toArray 23)).alloc (.cells BC.toArray 53)) r lk ∧ Cb ((w.alloc (.cells (cellsOf lk).toArray 23)).alloc (.cells BC.toArray 53)) (r + 1) 53 BC ∧ Ext w ((w.alloc (.cells (cellsOf lk).toArray 23)).alloc (.cells BC.toArray 53))) := by
    rw [hr]; exact ⟨⟨heap_alloc1 _ _ _, h1⟩, heap_alloc2 _ _ _, X.out⟩
  have glt : g < w.heap.size := k.cells.1.lt
  have u1 : decide ((j : Int) < 0) = false := decide_eq_false (by omega)
  have u2 : decide (7 < (j : Int)) = false := decide_eq_false (by omega)
  have u3 : decide ((8 : Int) < (m : Int)) = false := decide_eq_false (by omega)
  have jj : ¬ ((j : Int) < 0) := by omega
  have ji : (j : Int) < 8 := by omega
  have jnn : (0 : Int) ≤ (j : Int) := by omega
  replace k := Lib.hid k
  replace hj := Lib.hid hj
  go_enter Tryd.func29, Tryd.ntmps29
  go_upto_region 1 with fail
  refine wp_gen (fun W => Ky W r lk ∧ Cb W (r + 1) 53 BC ∧ Ext w W) B0.out ?_
  rw [← hr]
  have wr : w.heap.size ≤ r := Nat.le_of_eq hr.symm
  have gr : g < r := by omega
  replace hr := Lib.hid hr
  clear B0 X
  rintro w0 ⟨k0, k1, x0⟩
  have H0 := k.out.ext x0
  have c0 : w0.cell? ⟨g, 33 + j, none⟩ = some (.pointer none) := by
    have := H0.cells.1.cell (rwC_at H0.cells.2 ticks h j8)
    rwa [show rp h j = .pointer none by unfold rp; rw [hj.out]; rfl] at this
  replace H0 := Lib.hid H0
  replace k0 := Lib.hid k0
  replace k1 := Lib.hid k1
  replace x0 := Lib.hid x0
  clear k
  go_wp2_with fail
  refine (NB.out w0).mono ?_
  rintro e w1 ⟨rfl, b1, x1⟩
  obtain ⟨tk, htk⟩ : ∃ x, x = w0.heap.size := ⟨_, rfl⟩
  rw [← htk] at b1 ⊢
  have tk0 : w0.heap.size ≤ tk := Nat.le_of_eq htk.symm
  replace htk := Lib.hid htk
  have K0 : Ky w1 r lk := k0.out.ext x1
  have K1 := k1.out.ext x1
  have P0 : Hid (∀ u, Tq w1.heap.size g g w1 u → Ky u r lk ∧ Cb u (r + 1) 53 BC) := fun u e => ⟨⟨e.block K0.1 (heap_lt K0.1) (by omega) (by omega), h1⟩, e.block K1 K1.lt (by omega) (by omega)⟩
  have T0 : Hid (∀ u, Tq w1.heap.size g g w1.drew u → Tq w1.heap.size g g w1 u) := fun u x => Tq.trans (Tq.of_ext (Ext.refl w1).drew (Nat.le_refl _)) x
  have HV := (H0.out.ext x1).cells
  have CV : Hid (∀ u, Ext w1 u → u.cell? ⟨g, 33 + j, none⟩ = some (.pointer none) ∧ u.frozen? ⟨g, 33 + j, none⟩ = false) := fun u x => by
    have hc := HV.1.ext x
    have := hc.cell (rwC_at HV.2 ticks h j8)
    rw [show rp h j = .pointer none by unfold rp; rw [hj.out]; rfl] at this
    exact ⟨this, hc.frozen _⟩
  have CS : Hid (∀ u, Ext w1 u → Cs u 32 A m c (K.map cellsOf)) := fun u x => (hK.ext (x0.out.trans x1)).ext x
  have B1 : Hid (∀ u, Ext w1 u → Rk u tk 5 10 0 5) := fun u x => b1.ext x
  have X1 : Hid (Ext w0 w1) := x1
  have Bw : Hid (B ≤ w0.heap.size) := Nat.le_trans hB x0.out.size
  clear k0 k1 x1 K0 K1 NB b1 hK c0 HV
  obtain ⟨BX, hBX⟩ : ∃ BX : List Value, BX = [.slice none 0 0, .int .i64 0] := ⟨_, rfl⟩
  replace BB : Hid (Tryd.prog.built 96 [] = some BX.toArray) := by unfold Hid; rw [hBX]; exact BB.out
  replace hBX := Lib.hid (fun _ : Unit => hBX)
  go_upto_region 6 with fail
  go_cut [11] (fun s11 wx => s11 = .pointer (some ⟨tk, 0, none⟩) ∧ (∃ bk A' c' bx tk, RW B wx g root ticks (updR h j (some (newR bk lk ib sb ob ho A' m c' K bx tk))) N) ∧ Tb B tagX w wx)
  case rest =>
    obtain ⟨rfl, q1, q2⟩ := hcut
    replace q1 := Lib.hid q1
    replace q2 := Lib.hid q2
    clear P0 T0 CV CS B1 X1 Bw BB AB AC LN H0
    go_wp2_with fail
    go_ret
    exact ⟨rfl, q1.out, q2.out⟩
  case first =>
    refine qgT (R := Tq w1.heap.size g g) (Tq.refl _ _ _) (fun _ _ _ => Tq.trans) (.rd 0 (.rd 1 (.rd 2 (.rd 3 (.rd 5 (.rd 7 (.rd 9 (.rd 12 (.rd 13 (.alt 4 (.alt 6 (.alt 8 (.rd 10 (.alt 11 (.rd 14 (.alt 15 .nil .stop)) .stop)) .stop) (.alt 8 (.alt 6 (.rd 10 (.alt 11 (.rd 14 (.alt 15 .nil .stop)) .stop)) .stop) .stop)) (.alt 8 (.alt 4 (.alt 6 (.rd 10 (.alt 11 (.rd 14 (.alt 15 .nil .stop)) .stop)) .stop) .stop) .stop))))))))))) 16 ?_
    repeat ((first | refine qtR0 ?_ | refine qtS ?_); go_frame)
    refine qtV rfl (fun w' => w'.heap[r]? = some (.cells (cellsOf lk).toArray 23 (0, 0))) (fun w' e => (P0.out w' (T0.out w' e)).1.1) (.agg (cellsOf lk).toArray) (fun w' hF => exec_load_row rfl rfl hF rfl rfl (by rw [S_k]; rfl)) ?_
    go_frame
    refine qtV rfl (fun w' => w'.heap[(r + 1)]? = some (.cells BC.toArray 53 (0, 0))) (fun w' e => (P0.out w' (T0.out w' e)).2) (.agg BC.toArray) (fun w' hF => exec_load_row rfl rfl hF rfl rfl (by rw [S_b]; rfl)) ?_
    go_frame
    refine qtR0 ?_
    go_frame
    refine qtV rfl (fun _ => True) (fun _ _ => trivial) (.agg BX.toArray) (fun w' _ => exec_build_as rfl (by simp only [List.map_toArray, List.map_nil]; exact BB.out)) ?_
    go_frame
    repeat ((first | refine qtR0 ?_ | refine qtS ?_); go_frame)
    have X : Hid (Ext w1 w1.drew) := (Ext.refl w1).drew
    have z0 : w1.heap.size ≤ w1.drew.heap.size := Nat.le_refl _
    generalize w1.drew = WC at *
    repeat' (first
      | exact seqT_stop
      | (refine seqT_do (i := 4) _ rfl ?_ ?_ (fun K1 hK1 => ?_)
         (· rfl)
         rotate_left
         refine wp_slice_none rfl rfl ?_
         have y : Ext WC (WC.alloc (Obj.cells #[] 23)) := (Ext.refl WC).alloc _
         obtain ⟨g4, hg4⟩ : ∃ g, g = WC.heap.size := ⟨_, rfl⟩
         have OA := Lib.hid (OwnC.empty (B := w1.heap.size) (w := WC) (e := 23) (s := 32) z0)
         rw [← hg4] at OA ⊢
         refine hK1.out _ _ (Tq.of_ext y z0) ?_
         clear hK1 K1
         replace X := Lib.hid (X.out.trans y)
         (try replace HBX := Lib.hid (Cb.ext HBX.out y))
         have z1 := Nat.le_trans z0 y.size
         clear z0 y
         have z0 := z1
         clear z1
         replace hg4 := Lib.hid hg4
         generalize WC.alloc (Obj.cells #[] 23) = WC at *
         (try go_frame)
         repeat ((first | refine qtR0 ?_ | refine qtS ?_); go_frame)
         skip)
      | (refine seqT_do (i := 6) _ rfl ?_ ?_ (fun K1 hK1 => ?_)
         (· rfl)
         rotate_left
         refine wp_append_cc2 (t := 38) (e := 23) (s := 32) Tryd.underlying38 IK (by rw [cells_agg, ZS]) (by omega) (by omega) rfl rfl rfl OA.out (CS.out _ X.out) O1.out (by omega) z0 ?_
         intro A4 c4 WD o4 g4' bl4 own4
         rw [Nat.zero_add] at o4 ⊢
         refine hK1.out _ _ (Tq.of_below bl4) ?_
         clear hK1 K1
         (try replace HBX : Hid (Cb WD bx 96 BX) := (g4'.block _ HBX.out.lt (OA.out.ne HBX.out (by decide))).trans HBX.out)
         have OB : Hid (OwnC w1.heap.size WD 23 32 A4 m c4 ([] ++ K.map cellsOf)) := o4
         replace X : Hid (Ext w1 WD) := Below.trans X.out bl4
         have z1 := Nat.le_trans z0 bl4.size
         clear z0 bl4 own4 g4' o4 OA
         have z0 := z1
         clear z1
         generalize WD = WC at *
         (try go_frame)
         (try (refine qtV rfl (fun _ => True) (fun _ _ => trivial) (.agg (G A4 c4 bx tk).toArray) (fun w' _ => exec_build_as rfl (by simp only [List.map_toArray, List.map_cons, List.map_nil]; exact AB.out _ _ _ _)) ?_; go_frame))
         skip)
      | (refine seqT_do (i := 8) _ rfl ?_ ?_ (fun K1 hK1 => ?_)
         (· rfl)
         rotate_left
         go_simp
         have y : Ext WC (WC.alloc (Obj.cells BX.toArray 96)) := (Ext.refl WC).alloc _
         obtain ⟨bx, hbx⟩ : ∃ g, g = WC.heap.size := ⟨_, rfl⟩
         have HBX : Hid (Cb (WC.alloc (Obj.cells BX.toArray 96)) bx 96 BX) := by rw [hbx]; exact Cb.new _ _ _
         have lbx : w1.heap.size ≤ bx := by rw [hbx]; exact z0
         rw [← hbx]
         refine hK1.out _ (WC.alloc (Obj.cells BX.toArray 96)) (Tq.of_ext y z0) ?_
         clear hK1 K1
         replace X := Lib.hid (X.out.trans y)
         (try replace OA := Lib.hid (OwnC.keep OA.out fun i cs hi _ => (y.block _ (heap_lt hi)).trans hi))
         (try replace OB := Lib.hid (OwnC.keep OB.out fun i cs hi _ => (y.block _ (heap_lt hi)).trans hi))
         have z1 := Nat.le_trans z0 y.size
         clear z0 y
         have z0 := z1
         clear z1
         replace hbx := Lib.hid hbx
         generalize WC.alloc (Obj.cells BX.toArray 96) = WC at *
         (try go_frame)
         (try (refine qtV rfl (fun _ => True) (fun _ _ => trivial) (.agg (G A4 c4 bx tk).toArray) (fun w' _ => exec_build_as rfl (by simp only [List.map_toArray, List.map_cons, List.map_nil]; exact AB.out _ _ _ _)) ?_; go_frame))
         skip)
      | (refine seqT_do (i := 11) _ rfl ?_ ?_ (fun K1 hK1 => ?_)
         (· rfl)
         rotate_left
         go_simp
         have y : Ext WC (WC.alloc (Obj.cells (G A4 c4 bx tk).toArray 100)) := (Ext.refl WC).alloc _
         obtain ⟨bk, hbk⟩ : ∃ g, g = WC.heap.size := ⟨_, rfl⟩
         have HBK : Hid (Cb (WC.alloc (Obj.cells (G A4 c4 bx tk).toArray 100)) bk 100 (G A4 c4 bx tk)) := by rw [hbk]; exact Cb.new _ _ _
         have lbk : w1.heap.size ≤ bk := by rw [hbk]; exact z0
         rw [← hbk]
         refine hK1.out _ (WC.alloc (Obj.cells (G A4 c4 bx tk).toArray 100)) (Tq.of_ext y z0) ?_
         clear hK1 K1
         replace X := Lib.hid (X.out.trans y)
         replace HBX := Lib.hid (Cb.ext HBX.out y)
         replace OB := Lib.hid (OwnC.keep OB.out fun i cs hi _ => (y.block _ (heap_lt hi)).trans hi)
         have z1 := Nat.le_trans z0 y.size
         clear z0 y
         have z0 := z1
         clear z1
         replace hbk := Lib.hid hbk
         generalize WC.alloc (Obj.cells (G A4 c4 bx tk).toArray 100) = WC at *
         (try go_frame)
         repeat ((first | refine qtR _ (fun w' e => (And.intro j8 (And.intro ji jnn))) ?_ | refine qtS ?_); go_frame)
         skip)
      | (refine seqT_do (i := 15) _ rfl ?_ ?_ (fun K1 hK1 => ?_)
         (· rfl)
         rotate_left
         have c0 := (CV.out _ X.out).1
         have f0 := (CV.out _ X.out).2
         go_simp
         have gq : WC.grownBy (WC.setCell ⟨g, 33 + j, none⟩ (.pointer (some ⟨bk, 0, none⟩))) (some g) := (World.grownBy.refl WC _).set _ _
         refine hK1.out _ (WC.setCell ⟨g, 33 + j, none⟩ (.pointer (some ⟨bk, 0, none⟩))) ⟨gq.os, gq.tape, gq.output, gq.size, fun i hi q1 _ => gq.block i (Nat.lt_of_lt_of_le hi z0) (fun z => q1 (Option.some.inj z))⟩ ?_
         clear hK1 K1 gq
         have wl := X1.out.size
         have KC : Kc WC A4 m c4 K := by
           have o4 := OB.out
           rw [List.nil_append] at o4
           refine ⟨o4.cs, fun h0 q hq => ?_⟩
           rcases o4.1.2 with ⟨hv, hn0⟩ | ⟨g', cap, cur, hv, _, hg, _⟩
           · omega
           · injection hv with hv
             rw [hv] at hq
             injection hq with hq
             subst hq
             exact ⟨_, hg⟩
         have NEW : (newR bk lk ib sb ob ho A4 m c4 K bx tk).new w0 WC := ⟨LN.out _ _ _ _ _, (by rw [AC.out]; exact HBK.out), KC, fun P => ⟨none, 0, 0, (by rw [← hBX.out ()]; exact HBX.out), OwnC.nil _ _ _ _, (fun k hk => by cases hk), fun x hx => by cases hx⟩, B1.out _ X.out, ⟨Nat.le_trans wl lbk, Nat.le_trans wl lbx, tk0⟩, X1.out.trans X.out⟩
         have RG := H0.out.reg Bw.out NEW j8 hj.out
         have FIN : Hid ((∃ b' A' c' x' t', RW B (WC.setCell ⟨g, 33 + j, none⟩ (.pointer (some ⟨bk, 0, none⟩))) g root ticks (updR h j (some (newR b' lk ib sb ob ho A' m c' K x' t'))) N) ∧ Tb B tagX w (WC.setCell ⟨g, 33 + j, none⟩ (.pointer (some ⟨bk, 0, none⟩)))) := ⟨⟨bk, A4, c4, bx, tk, RG.1⟩, (Tb.of_ext x0.out).trans RG.2⟩
         clear RG NEW KC c0 f0 HBX HBK OB X
         generalize WC.setCell ⟨g, 33 + j, none⟩ (.pointer (some ⟨bk, 0, none⟩)) = WC at *
         (try simp only [Act.put])
         skip)
      | (refine seqT_done ?_
         go_wp2_with fail
         go_meet
         exact ⟨rfl, FIN.out.1, FIN.out.2⟩))
end
end Go.Proofs.YtbnjmmefnjoofaaDoor
end
