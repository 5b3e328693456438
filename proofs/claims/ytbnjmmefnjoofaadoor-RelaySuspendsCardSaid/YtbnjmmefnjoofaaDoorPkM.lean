import Derived.Test.YtbnjmmefnjoofaaDoorPkN
import Derived.Test.YtbnjmmefnjoofaaDoorBase
import Derived.Maps.AppendAt
import Derived.Deep.RegionHeld3
import Derived.OwnWalk
import Derived.Deep.DeepMust
section
/-
  octets.High (over LowB): for seats without layer 1's laws.
-/
namespace Go.Proofs.YtbnjmmefnjoofaaDoor
open Go.ChangeShapes Go.WideShapes Go.ChangeAt Go.RowKit Go.Deep

theorem bt_reverse {xs : List UInt8} {k : Nat} (hk : k < xs.length) : bt xs.reverse k = bt xs (xs.length - 1 - k) := by
  unfold bt
  simp [List.getD, hk, List.getElem?_reverse, show xs.length - 1 - k < xs.length by omega]

/-- A row of bytes of the call's own that is filled from its end on. -/
def FillBack (w wr : World) (n k : Nat) (f : Nat → Nat) : Prop := Ext w wr ∧ wr.rowIs w.heap.size 5 n (fun i => if n ≤ i + k then .int .u8 (f i : Int) else .int .u8 0)
theorem FillBack.step {w wr : World} {n k : Nat} {f : Nat → Nat} (h : FillBack w wr n k f) {j : Nat} (hj : j + k + 1 = n) {u : Int} (hu : u = (f j : Int)) :
    FillBack w (wr.setCell ⟨w.heap.size, j, none⟩ (.int .u8 u)) n (k + 1) f := by
  subst hu
  refine ⟨h.1.setCell (Nat.le_refl _) _, (h.2.set j _).congr fun i _ => ?_⟩
  by_cases e : i = j
  · subst e; simp only [if_true]; rw [if_pos (by omega)]
  · simp only [if_neg e]
    by_cases hi : n ≤ i + k
    · rw [if_pos hi, if_pos (by omega)]
    · rw [if_neg hi, if_neg (by omega)]

set_option maxHeartbeats 400000 in
theorem reversed_calls {A : Option Addr} {n c : Nat} {xs : List UInt8} {w : World} (h : Bs w A n c xs) (hm : n ≤ 281474976710656) :
    Calls Tryd.prog 65 #[.slice A n c] w (RetBs xs.reverse w) := by
  have h1 := h.le
  have h2 := h.cap
  have hmk := make8 n hm
  go_enter Tryd.func65, Tryd.ntmps65
  go_wp2
  clear hmk
  go_loopw [10] (fun i wr => ∃ k : Nat, k ≤ n ∧ i = .int .i64 k ∧ FillBack w wr n k (fun j => bt xs (n - 1 - j))) (fun i _ => n - (intOf i).toNat)
  case atStart => exact ⟨0, Nat.zero_le _, rfl, (Ext.refl w).alloc _, (World.rowIs_made w _ n _).congr fun i hi => by rw [if_neg (by omega)]⟩
  case round =>
    obtain ⟨k, hk, rfl, hf⟩ := hrel
    by_cases hlt : k < n
    · obtain ⟨b, off, rfl, hb, hc⟩ := h.pos (by omega)
      have g1 := (hf.1.cell (p := ⟨b, off + k, none⟩) hb).trans (hc k hlt)
      have g3 := hf.2.cell (i := n - 1 - k) (by omega)
      rw [if_neg (by omega)] at g3
      have g4 := hf.2.frozen (n - 1 - k)
      clear hc
      go_wp2
      go_roundw
      case rel =>
        exact ⟨k + 1, by omega, by go_num, hf.step (by omega) (by rw [show n - 1 - (n - 1 - k) = k by omega])⟩
      case measure => simp [intOf]; omega
    · obtain rfl : k = n := by omega
      go_wp2
      go_ret
      refine ⟨_, _, _, rfl, ?_, hf.1⟩
      refine ⟨by rw [List.length_reverse, h.len], Nat.le_refl _, by unfold maxLen; omega, fun _ => ⟨w.heap.size, 0, rfl, hf.2.lt, fun j hj => ?_⟩⟩
      rw [Nat.zero_add, hf.2.cell hj, if_pos (by omega), bt_reverse (by rw [h.len]; exact hj), h.len]

set_option maxHeartbeats 400000 in
theorem high_calls {n m : Nat} {many : Int} {w : World} (hn : n < 18446744073709551616) (h1 : 0 ≤ many) (h2 : many ≤ 9223372036854775807) (hm8 : m ≤ 8) (hM : (if (8 : Int) < many then 8 else many) = (m : Int)) :
    Calls Tryd.prog 41 #[.int .u64 (n : Int), .int .i64 many] w (RetBs (lowL n m).reverse w) := by
  have hM' := Lib.hid hM
  clear hM
  go_enter Tryd.func41, Tryd.ntmps41
  go_wp2_with fail
  refine (low_calls hn h1 h2 hm8 hM'.out).mono ?_
  rintro e w1 ⟨A, k, c, rfl, hb, he⟩
  go_wp2_with fail
  have hk : k ≤ 8 := by have := hb.len; rw [lowL_len] at this; omega
  refine (reversed_calls hb (by omega)).mono ?_
  rintro e w2 ⟨A, k, c, rfl, hb2, he2⟩
  go_wp2_with fail
  go_ret
  exact ⟨_, _, _, rfl, hb2, he.trans he2⟩
end Go.Proofs.YtbnjmmefnjoofaaDoor
end

section
/-
  A row of bytes of the call's own that is appended to ('Own'); what append does with it. No conditions.
-/
namespace Go.Proofs.YtbnjmmefnjoofaaDoor
open Go.ChangeShapes Go.WideShapes Go.ChangeAt Go.RowKit Go.Deep
set_option maxRecDepth 100000

def u8v (x : UInt8) : Value := .int .u8 (x.toNat : Int)
theorem u8v_bt {xs : List UInt8} {j : Nat} (h : j < xs.length) : (xs.map u8v)[j]? = some (.int .u8 (bt xs j : Int)) := by simp [u8v, bt, List.getD, h]

/-- The slice '.slice A n c' is the call's own row (in a block from B on), and holds xs. -/
def Own (B : Nat) (w : World) (A : Option Addr) (n c : Nat) (xs : List UInt8) : Prop := w.ownsRow B 5 1 (.slice A n c) n (xs.map u8v)

section
variable {w w' : World} {B : Nat} {A : Option Addr} {n c : Nat} {xs : List UInt8}
theorem Own.nil (B : Nat) (w : World) : Own B w none 0 0 [] := World.ownsRow_nil w B _ 1
theorem Own.made (w : World) (B cap : Nat) (hB : B ≤ w.heap.size) (hm : cap ≤ 281474976710656) : Own B (w.alloc (.cells (madeCells #[.int .u8 0] cap) 5)) (some ⟨w.heap.size, 0, none⟩) 0 cap [] :=
  World.ownsRow_made w _ cap hB (by unfold maxLen; omega) (by rw [size_madeCells, Nat.mul_one])
theorem Own.alloc (h : Own B w A n c xs) (o : Obj) : Own B (w.alloc o) A n c xs := World.ownsRow.alloc h o
theorem Own.drew (h : Own B w A n c xs) : Own B w.drew A n c xs := h
theorem Own.len (h : Own B w A n c xs) : xs.length = n := by simpa using h.1
theorem Own.bs (h : Own B w A n c xs) : Bs w A n c xs := by
  have hl := h.len
  rcases h.2 with ⟨hv, hn⟩ | ⟨g, cap, cur, hv, hb, hg, hnc, hcm, hcs, htk⟩
  · injection hv with h1 h2 h3
    subst h1 h2 h3
    exact ⟨hl, Nat.le_refl _, Nat.zero_le _, fun h => absurd h (by omega)⟩
  · injection hv with h1 h2 h3
    subst h1 h3
    refine ⟨hl, hnc, hcm, fun h0 => ⟨g, 0, rfl, ?_, fun j hj => ?_⟩⟩
    · rcases Nat.lt_or_ge g w.heap.size with h | h
      · exact h
      · rw [Array.getElem?_eq_none h] at hg; cases hg
    · rw [Nat.zero_add]
      have e : (xs.map u8v)[j]? = cur[j]? := by
        rw [← htk, List.getElem?_take, if_pos (by omega), Array.getElem?_toList]
      rw [u8v_bt (by omega)] at e
      simp [World.cell?, hg, ← e]
theorem Own.ext (h : Own B w A n c xs) (he : Ext w w') : Own B w' A n c xs := by
  refine ⟨h.1, ?_⟩
  rcases h.2 with h | ⟨g, cap, cur, hv, hb, hg, r⟩
  · exact .inl h
  · exact .inr ⟨g, cap, cur, hv, hb, (he.block g (by
      rcases Nat.lt_or_ge g w.heap.size with h | h
      · exact h
      · rw [Array.getElem?_eq_none h] at hg; cases hg)).trans hg, r⟩
theorem Own.ge (h : Own B w A n c xs) : ∀ g, Value.ownBlock (.slice A n c) = some g → B ≤ g := fun g hg => (World.ownsRow.lt h g hg).1
theorem Own.kept {row : Option Nat} (h : Own B w A n c xs) (hg : w.grownBy w' row) (hne : Value.ownBlock (.slice A n c) = none ∨ Value.ownBlock (.slice A n c) ≠ row) : Own B w' A n c xs := World.ownsRow.kept h hg hne
end

theorem Own.empty (w : World) (B : Nat) (hB : B ≤ w.heap.size) : Own B (w.alloc (.cells #[] 5)) (some ⟨w.heap.size, 0, none⟩) 0 0 [] :=
  World.ownsRow_lit (e := 5) (size := 1) w #[] 0 hB (Nat.zero_le _) rfl

theorem make0 (n : Nat) (hn : n ≤ 281474976710656) (w : World) :
    (Instr.makeSlice 35 (.int .i64 0) (.int .i64 (n : Int))).run Tryd.prog w = .ok (.slice (some ⟨w.heap.size, 0, none⟩) 0 n) (w.alloc (.cells (madeCells #[.int .u8 0] n) 5)) := by
  obtain ⟨i, hi, hz0, hz1, hz2⟩ := info_parts info8
  have h := run_make (P := Tryd.prog) w 35 5 i (.int .u8 0) Tryd.underlying35 hi hz0 .i64 .i64 0 (n : Int) (by omega) (by omega) (by rw [hz2]; omega) (by omega)
  simpa [hz1, Value.cells] using h

/-- 'append(v, s...)' on a row of the call's own. -/
theorem append_bs {w : World} {B : Nat} {A A' : Option Addr} {n c m c' : Nat} {xs ys : List UInt8} (ty : TypeId) (h : Own B w A n c xs) (hr : Bs w A' m c' ys) (hm : n + m ≤ 140737488355328) (hB : B ≤ w.heap.size) :
    ∃ A'' c'' w', (Builtin.append_ #[35, 35] ty #[.slice A n c, .slice A' m c']).run Tryd.prog w = .ok (.slice A'' (n + m) c'') w' ∧ Own B w' A'' (n + m) c'' (xs ++ ys) ∧ w.grownBy w' (Value.ownBlock (.slice A n c)) ∧
      (Value.ownBlock (.slice A'' (n + m) c'') = Value.ownBlock (.slice A n c) ∨ Value.ownBlock (.slice A'' (n + m) c'') = some w.heap.size) := by
  obtain ⟨i, hi, hz0, hz1, hz2⟩ := info_parts info8
  have form : ∀ (v' : Value) (w' : World), w'.ownsRow B 5 1 v' (n + m) (xs.map u8v ++ ys.map u8v) → ∃ A'' c'', v' = .slice A'' (n + m) c'' ∧ Own B w' A'' (n + m) c'' (xs ++ ys) := by
    intro v' w' ho
    rcases ho.2 with ⟨hv, hn⟩ | ⟨g, cap, cur, hv, _⟩
    · refine ⟨none, 0, by rw [hv, hn], ?_⟩
      rw [hv] at ho
      unfold Own
      rw [List.map_append]
      rw [show (Value.slice none (n + m) 0) = .slice none 0 0 by rw [hn]]
      exact ho
    · refine ⟨_, _, hv, ?_⟩
      rw [hv] at ho
      unfold Own
      rw [List.map_append]
      exact ho
  rcases A' with _ | a
  · have hm0 : m = 0 := by
      rcases Nat.eq_zero_or_pos m with h0 | h0
      · exact h0
      · obtain ⟨b, off, e, _⟩ := hr.pos h0
        cases e
    subst hm0
    have hy := hr.zero
    subst hy
    refine ⟨A, c, w, ?_, by simpa using h, ⟨rfl, rfl, rfl, Nat.le_refl _, fun _ _ _ => rfl⟩, .inl rfl⟩
    rcases h.2 with ⟨hv, hn⟩ | ⟨g, cap, cur, hv, _, _, hnc, _⟩
    · rw [hv]
      subst hn
      injection hv with _ _ h3
      subst h3
      simp [Builtin.append_, run_underlying Tryd.underlying35, sizeOf, typeInfo, hi, Builtin.lenOf, Builtin.firstCells]
      exact Eq.symm ‹A = none›
    · rw [hv]
      injection hv with _ _ h3
      subst h3
      simp [Builtin.append_, run_underlying Tryd.underlying35, sizeOf, typeInfo, hi, Builtin.lenOf, Builtin.firstCells, hnc, storeCells]
      exact Eq.symm ‹A = some _›
  · obtain ⟨v', w', hrun, ho, hg, _, hown⟩ := run_append_own_at (P := Tryd.prog) w B 35 ty 5 i (.int .u8 0) 1 1 Tryd.underlying35 hi hz0 hz1 hz2 rfl (by decide) (.slice A n c) n (xs.map u8v) h a m c' (ys.map u8v)
      (by rw [List.length_map, hr.len, Nat.mul_one]) (fun j u hu => by
        have hj : j < ys.length := by
          rcases Nat.lt_or_ge j ys.length with h | h
          · exact h
          · simp [h] at hu
        obtain ⟨b, off, e, hb, hc⟩ := hr.pos (by have := hr.len; omega)
        injection e with e
        subst e
        have hplain : (⟨b, off, none⟩ : Addr).add j = ⟨b, off + j, none⟩ := by unfold Addr.add; split <;> simp_all
        rw [hplain, hc j (by rw [← hr.len]; exact hj), ← u8v_bt hj, hu])
      (fun u hu => by
        obtain ⟨x, _, rfl⟩ := List.mem_map.1 hu
        rfl) (by unfold maxLen; omega) (by omega) hB
    obtain ⟨A'', c'', rfl, ho'⟩ := form v' w' ho
    exact ⟨A'', c'', w', hrun, ho', hg, hown⟩

/-- The same as a law for a region's step. -/
theorem wp_append_bs {w : World} {o : Oper} {a : Act} {K : Act → World → Prop} {Q : Exit → Act → World → Prop} {B : Nat} {A A' : Option Addr} {n c m c' : Nat} {xs ys : List UInt8} {s x : Operand}
    (ho : o.op = .call { callee := .builtin .append, args := #[s, x], argTypes := #[35, 35] }) (hs : a.eval s = .slice A n c) (hx : a.eval x = .slice A' m c')
    (h : Own B w A n c xs) (hr : Bs w A' m c' ys) (hm : n + m ≤ 140737488355328) (hB : B ≤ w.heap.size)
    (hK : ∀ A'' c'' w', Own B w' A'' (n + m) c'' (xs ++ ys) → w.grownBy w' (Value.ownBlock (.slice A n c)) → Below B w w' → K (a.put o.dst (.slice A'' (n + m) c'')) w') : o.wp Tryd.prog a w K Q := by
  obtain ⟨A'', c'', w', hrun, h2, h3, h4⟩ := append_bs o.type h hr hm hB
  unfold Oper.wp execOp
  simp only [ho, resolve, invoke, builtin, Sem.run_bind, Sem.run_pure, Result.andThen_ok, List.map_toArray, List.map_cons, List.map_nil, hs, hx, hrun]
  exact hK A'' c'' w' h2 h3 ((Below.refl B w).grown h3 hB h.ge)

/-- .. and for a plain list of operations. -/
theorem wpList_append_bs {w : World} {ops : Array Oper} {rest : List Oper} {o : Oper} {a : Act} {Q : Exit → Act → World → Prop} (hgd : o.guard = none) {B : Nat} {A A' : Option Addr} {n c m c' : Nat} {xs ys : List UInt8} {s x : Operand}
    (ho : o.op = .call { callee := .builtin .append, args := #[s, x], argTypes := #[35, 35] }) (hs : a.eval s = .slice A n c) (hx : a.eval x = .slice A' m c')
    (h : Own B w A n c xs) (hr : Bs w A' m c' ys) (hm : n + m ≤ 140737488355328) (hB : B ≤ w.heap.size)
    (hK : ∀ A'' c'' w', Own B w' A'' (n + m) c'' (xs ++ ys) → w.grownBy w' (Value.ownBlock (.slice A n c)) → Below B w w' → wpList Tryd.prog ops Q rest (a.put o.dst (.slice A'' (n + m) c'')) w') : wpList Tryd.prog ops Q (o :: rest) a w :=
  wpList_plain hgd fun _ hK' => wp_append_bs ho hs hx h hr hm hB fun A'' c'' w' h2 h3 h4 => hK' _ _ (hK A'' c'' w' h2 h3 h4)
end Go.Proofs.YtbnjmmefnjoofaaDoor
end

section
/-
  Bytes within a block. No conditions.
-/
namespace Go.Proofs.YtbnjmmefnjoofaaDoor
open Go.ChangeShapes Go.WideShapes Go.ChangeAt Go.RowKit Go.Deep

/-- A part of a block that holds bytes reads as them. -/
theorem Cb.bs {w : World} {g : Nat} {T : TypeId} {L : List Value} (h : Cb w g T L) {p q : List Value} {xs : List UInt8} {off n : Nat} (hL : L = p ++ (cellsOf xs ++ q)) (hp : p.length = off) (hn : xs.length = n) (hm : n ≤ 1000000) : Bs w (some ⟨g, off, none⟩) n n xs :=
  ⟨hn, Nat.le_refl _, by unfold maxLen; omega, fun _ => ⟨g, off, rfl, h.lt, fun j hj => h.mid hL hp j _ (cellsOf_get (by omega))⟩⟩
end Go.Proofs.YtbnjmmefnjoofaaDoor
end

section
/-
  head.Bytes.
-/
namespace Go.Proofs.YtbnjmmefnjoofaaDoor
open Go.ChangeShapes Go.WideShapes Go.ChangeAt Go.RowKit Go.Deep
set_option maxRecDepth 100000

def high4 (n : Nat) : List UInt8 := (lowL n 4).reverse
theorem high4_len (n : Nat) : (high4 n).length = 4 := by rw [high4, List.length_reverse, lowL_len]
def headL (pk : List UInt8) (p n : Nat) : List UInt8 := (pk ++ high4 p) ++ high4 n
theorem headL_len {pk : List UInt8} (h : pk.length = 32) (p n : Nat) : (headL pk p n).length = 40 := by simp [headL, high4_len, h]
theorem hd_cells {pk : List UInt8} (lp : pk.length = 32) (p n : Int) : hdC pk p n = [] ++ (cellsOf pk ++ [.int .i64 p, .int .i64 n]) ∧ (hdC pk p n)[32]? = some (.int .i64 p) ∧ (hdC pk p n)[33]? = some (.int .i64 n) := by
  refine ⟨by simp [hdC], ?_, ?_⟩
  · unfold hdC; rw [List.getElem?_append_right (by rw [cellsOf_len, lp]; omega)]; simp [cellsOf_len, lp]
  · unfold hdC; rw [List.getElem?_append_right (by rw [cellsOf_len, lp]; omega)]; simp [cellsOf_len, lp]
set_option maxHeartbeats 2000000 in
theorem headBytes_bad {w : World} {pk : List UInt8} {p n : Int} (lp : pk.length = 32) (hb : okH p n = false) : Calls Tryd.prog 68 #[.agg (hdC pk p n).toArray] w fun e w' => e = .returned (.tuple #[.slice none 0 0, .int .i64 1]) ∧ Ext w w' := by
  have VH := Lib.hid (fun (W : World) => validHead_calls (w := W) (p := p) (n := n) lp)
  rw [hb] at VH
  have L_hd := hdC_len lp p n
  generalize hdC pk p n = hd at *
  have S_hd : hd.toArray.size = 34 := by rw [List.size_toArray, L_hd]
  have B0 : Hid (Cb (w.alloc (Obj.cells hd.toArray 34)) w.heap.size 34 hd ∧ Ext w (w.alloc (Obj.cells hd.toArray 34))) := ⟨Cb.new _ _ _, (Ext.refl w).alloc _⟩
  go_enter Tryd.func68, Tryd.ntmps68
  go_upto_region 1 with fail
  refine wp_gen (fun W => Cb W w.heap.size 34 hd ∧ Ext w W) B0.out ?_
  clear B0
  rintro w0 ⟨k0, x0⟩
  replace k0 := Lib.hid k0
  replace x0 := Lib.hid x0
  go_wp2_with (refine wpList_load_row rfl 34 _ rfl w.heap.size rfl 34 hd.toArray (0, 0) _ k0.out rfl rfl (by rw [S_hd]; rfl) ?_; go_frame)
  refine (VH.out _).mono ?_
  rintro e w1 ⟨rfl, e1⟩
  go_wp2_with fail
  go_ret2
  exact ⟨rfl, x0.out.trans e1⟩
set_option maxHeartbeats 4000000 in
theorem headBytes_ok {w : World} {pk : List UInt8} {p n : Nat} (lp : pk.length = 32) (hp : p ≤ 1000000) (hn : n ≤ 1000000) : Calls Tryd.prog 68 #[.agg (hdC pk (p : Int) (n : Int)).toArray] w (RetBsE (headL pk p n) 0 w) := by
  have hb : okH (p : Int) (n : Int) = true := by
    unfold okH upB
    rw [decide_eq_true (show (0 : Int) ≤ (p : Int) by omega), decide_eq_true (show (p : Int) ≤ 1000000 by omega), decide_eq_true (show (0 : Int) ≤ (n : Int) by omega), decide_eq_true (show (n : Int) ≤ 1000000 by omega)]
    rfl
  have VH := Lib.hid (fun (W : World) => validHead_calls (w := W) (p := (p : Int)) (n := (n : Int)) lp)
  rw [hb] at VH
  have HP : Hid (∀ W, Calls Tryd.prog 41 #[.int .u64 (p : Int), .int .i64 4] W (RetBs (high4 p) W)) := fun W => high_calls (by omega) (by omega) (by omega) (by omega) rfl
  have HN : Hid (∀ W, Calls Tryd.prog 41 #[.int .u64 (n : Int), .int .i64 4] W (RetBs (high4 n) W)) := fun W => high_calls (by omega) (by omega) (by omega) (by omega) rfl
  have u1 : IntKind.u64.wrap (p : Int) = (p : Int) := IntWalk.u64_in _ (by omega)
  have u2 : IntKind.u64.wrap (n : Int) = (n : Int) := IntWalk.u64_in _ (by omega)
  obtain ⟨c0, c32, c33⟩ := hd_cells lp (p : Int) (n : Int)
  have L_hd := hdC_len lp (p : Int) (n : Int)
  have hR : Hid ((pk ++ high4 p) ++ high4 n = headL pk p n) := rfl
  replace c0 := Lib.hid (fun _ : Unit => c0)
  replace c32 := Lib.hid c32
  replace c33 := Lib.hid c33
  generalize headL pk p n = hl at *
  generalize hdC pk (p : Int) (n : Int) = hd at *
  have lP := high4_len p
  have lN := high4_len n
  generalize high4 p = hp4 at *
  generalize high4 n = hn4 at *
  clear hb hp hn
  have S_hd : hd.toArray.size = 34 := by rw [List.size_toArray, L_hd]
  obtain ⟨r, hr⟩ : ∃ r, r = w.heap.size := ⟨_, rfl⟩
  have B0 : Hid (Cb (w.alloc (Obj.cells hd.toArray 34)) r 34 hd ∧ Ext w (w.alloc (Obj.cells hd.toArray 34))) := by rw [hr]; exact ⟨Cb.new _ _ _, (Ext.refl w).alloc _⟩
  go_enter Tryd.func68, Tryd.ntmps68
  go_upto_region 1 with fail
  refine wp_gen (fun W => Cb W r 34 hd ∧ Ext w W) B0.out ?_
  rw [← hr]
  have wr : w.heap.size ≤ r := Nat.le_of_eq hr.symm
  clear B0
  replace hr := Lib.hid hr
  rintro w0 ⟨k0, x0⟩
  replace k0 := Lib.hid k0
  replace x0 := Lib.hid x0
  go_wp2_with (refine wpList_load_row rfl 34 _ rfl r rfl 34 hd.toArray (0, 0) _ k0.out rfl rfl (by rw [S_hd]; rfl) ?_; go_frame)
  refine (VH.out _).mono ?_
  rintro e w1 ⟨rfl, e1⟩
  have k1 := Lib.hid (k0.out.ext e1)
  have x1 := Lib.hid (x0.out.trans e1)
  have r1 : r + 1 ≤ w1.heap.size := (k0.out.ext e1).lt
  have b1 := Lib.hid (k1.out.bs (c0.out ()) rfl lp (by omega))
  clear k0 x0 e1 VH
  go_upto_region 4 with (at_builtin; (with_reducible refine wpList_append_bs rfl (B := r + 1) (s := .const (.slice none 0 0)) (x := .tmp 9) rfl rfl rfl (Own.nil _ _) b1.out (by omega) r1 ?_); intro A2 c2 w2 o2 g2 b2; simp only [Nat.zero_add, List.nil_append] at o2 ⊢; replace o2 := Lib.hid o2; clear g2; replace b2 := Lib.hid b2; go_frame)
  refine wp_gen (fun W => Own (r + 1) W A2 32 c2 pk ∧ Cb W r 34 hd ∧ Ext w W) ⟨o2.out, k1.out.kept b2.out (by omega), Below.trans x1.out (b2.out.mono (by omega))⟩ ?_
  clear o2 b2 b1 k1 x1 r1
  rintro w3 ⟨o3, k3, x3⟩
  have b3 := k3.cell c32.out
  replace o3 := Lib.hid o3
  replace k3 := Lib.hid k3
  replace x3 := Lib.hid x3
  go_wp2_with fail
  refine (HP.out _).mono ?_
  rintro e w4 ⟨A4, n4, c4, rfl, b4, e4⟩
  obtain rfl : n4 = 4 := by rw [← b4.len, lP]
  have o4 := Lib.hid (o3.out.ext e4)
  have k4 := Lib.hid (k3.out.ext e4)
  have x4 := Lib.hid (x3.out.trans e4)
  have r4 : r + 1 ≤ w4.heap.size := (k3.out.ext e4).lt
  replace b4 := Lib.hid b4
  clear b3 o3 k3 x3 e4 HP
  go_upto_region 5 with (at_builtin; (with_reducible refine wpList_append_bs rfl (B := r + 1) (s := .tmp 11) (x := .tmp 15) rfl rfl rfl o4.out b4.out (by omega) r4 ?_); intro A5 c5 w5 o5 g5 b5; replace o5 := Lib.hid o5; clear g5; replace b5 := Lib.hid b5; go_frame)
  refine wp_gen (fun W => Own (r + 1) W A5 (32 + 4) c5 (pk ++ hp4) ∧ Cb W r 34 hd ∧ Ext w W) ⟨o5.out, k4.out.kept b5.out (by omega), Below.trans x4.out (b5.out.mono (by omega))⟩ ?_
  clear o5 b5 o4 b4 k4 x4 r4
  rintro w6 ⟨o6, k6, x6⟩
  have b6 := k6.cell c33.out
  replace o6 := Lib.hid o6
  replace k6 := Lib.hid k6
  replace x6 := Lib.hid x6
  go_wp2_with fail
  refine (HN.out _).mono ?_
  rintro e w7 ⟨A7, n7, c7, rfl, b7, e7⟩
  obtain rfl : n7 = 4 := by rw [← b7.len, lN]
  have o7 := Lib.hid (o6.out.ext e7)
  have x7 := Lib.hid (x6.out.trans e7)
  have r7 : r + 1 ≤ w7.heap.size := (k6.out.ext e7).lt
  replace b7 := Lib.hid b7
  clear b6 o6 k6 x6 e7 HN
  go_wp2_with (at_builtin; (with_reducible refine wpList_append_bs rfl (B := r + 1) (s := .tmp 17) (x := .tmp 21) rfl rfl rfl o7.out b7.out (by omega) r7 ?_); intro A8 c8 w8 o8 g8 b8; replace o8 := Lib.hid o8; clear g8; replace b8 := Lib.hid b8; go_frame)
  go_ret2
  exact ⟨A8, _, c8, rfl, by rw [← hR.out]; exact o8.out.bs, Below.trans x7.out (b8.out.mono (by omega))⟩
end Go.Proofs.YtbnjmmefnjoofaaDoor
end
