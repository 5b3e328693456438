import Derived.Test.YtbnjmmefnjoofaaDoorHeadB
import Derived.Test.YtbnjmmefnjoofaaDoorOwn
import Derived.Deep.AppendSrc
import Derived.Deep.Upon
import Derived.Test.YtbnjmmefnjoofaaDoorFillS
import Derived.Test.YtbnjmmefnjoofaaDoorMid
import Derived.Great.BuildSlice
import Derived.Maps.AppendAt
import Derived.OwnWalk
section
/-
  head.validEnvelope; an envelope's cells.
-/
namespace Go.Proofs.YtbnjmmefnjoofaaDoor
open Go.ChangeShapes Go.WideShapes Go.ChangeAt Go.RowKit Go.Deep
set_option maxRecDepth 100000

def okE (f t p n : Int) (m : Nat) : Bool := upB f 7 && (upB t 7 && (okH p n && decide ((m : Int) ≤ 600)))
set_option maxHeartbeats 4000000 in
theorem validEnvelope_calls {w : World} {f t p n : Int} {cm pk : List UInt8} {A : Option Addr} {m c : Nat} (hc : cm.length = 32) (hk : pk.length = 32) (hm : m ≤ 9223372036854775807) : Calls Tryd.prog 67 #[.agg (evC f t cm pk p n A m c).toArray] w fun e w' => e = .returned (.bool (okE f t p n m)) ∧ Ext w w' := by
  have UP : Hid (∀ (W : World) (z : Int), Calls Tryd.prog 86 #[.int .i64 z, .int .i64 7] W fun e w' => e = .returned (.bool (upB z 7)) ∧ Ext W w') := fun W z => upTo_calls
  have VH := Lib.hid (fun (W : World) => validHead_calls (w := W) (p := p) (n := n) hk)
  obtain ⟨c0, c1, c68, ch, c5⟩ := ev_cells hc hk f t p n A m c
  clear c5
  replace c0 := Lib.hid c0
  replace c1 := Lib.hid c1
  replace c68 := Lib.hid c68
  replace ch := Lib.hid (fun _ : Unit => ch)
  have hR : Hid (okE f t p n m = (upB f 7 && (upB t 7 && (okH p n && decide ((m : Int) ≤ 600))))) := rfl
  have L_h := hdC_len hk p n
  have l2 : ([Value.int .i64 f, .int .i64 t] ++ cellsOf cm).length = 34 := by simp [cellsOf_len, hc]
  generalize okE f t p n m = ok at *
  generalize evC f t cm pk p n A m c = ev at *
  generalize hdC pk p n = hd at *
  have H34 : Hid (∀ (W : World) (g : Nat) T, Cb W g T ev → ∀ j v, hd[j]? = some v → W.cell? ⟨g, 34 + j, none⟩ = some v) := fun W g T k => k.mid (ch.out ()) l2
  clear ch
  have B0 : Hid (Cb (w.alloc (Obj.cells ev.toArray 37)) w.heap.size 37 ev ∧ Ext w (w.alloc (Obj.cells ev.toArray 37))) := ⟨Cb.new _ _ _, (Ext.refl w).alloc _⟩
  go_enter Tryd.func67, Tryd.ntmps67
  go_upto_region 1 with fail
  refine wp_gen (fun W => Cb W w.heap.size 37 ev ∧ Ext w W) B0.out ?_
  clear B0
  rintro w0 ⟨k0, x0⟩
  have b0 := k0.cell c0.out
  replace k0 := Lib.hid k0
  replace x0 := Lib.hid x0
  go_wp2_with fail
  refine (UP.out _ _).mono ?_
  rintro e w1 ⟨rfl, e1⟩
  have k1 := Lib.hid (k0.out.ext e1)
  have b1 := k1.out.cell c1.out
  have x1 := Lib.hid (x0.out.trans e1)
  clear b0 k0 x0 e1
  rcases hf : upB f 7 with _ | _
  · have hR2 : Hid (ok = false) := by unfold Hid; rw [hR.out, hf]; rfl
    clear b1 hR hf
    go_wp2_with fail
    go_ret
    exact ⟨by rw [hR2.out]; rfl, x1.out⟩
  replace hf := Lib.hid hf
  go_wp2_with fail
  refine (UP.out _ _).mono ?_
  rintro e w2 ⟨rfl, e2⟩
  have k2 := Lib.hid (k1.out.ext e2)
  have b2 := Lib.hid (H34.out _ _ _ k2.out)
  have x2 := Lib.hid (x1.out.trans e2)
  clear b1 k1 x1 e2
  rcases ht : upB t 7 with _ | _
  · have hR2 : Hid (ok = false) := by unfold Hid; rw [hR.out, ht, hf.out]; rfl
    clear b2 hR ht hf
    go_wp2_with fail
    go_ret
    exact ⟨by rw [hR2.out]; rfl, x2.out⟩
  replace ht := Lib.hid ht
  go_wp2_with (refine wpList_load_mid rfl (g := w.heap.size) (off := 34) (ys := hd) rfl rfl b2.out rfl rfl (by rw [L_h]; rfl) ?_; go_frame)
  refine (VH.out _).mono ?_
  rintro e w3 ⟨rfl, e3⟩
  have k3 := Lib.hid (k2.out.ext e3)
  have b3 := k3.out.cell c68.out
  have x3 := Lib.hid (x2.out.trans e3)
  clear b2 k2 x2 e3
  rcases ho : okH p n with _ | _
  · have hR2 : Hid (ok = false) := by unfold Hid; rw [hR.out, ht.out, hf.out, ho]; rfl
    clear b3 hR ht hf ho
    go_wp2_with fail
    go_ret
    exact ⟨by rw [hR2.out]; rfl, x3.out⟩
  have hR2 : Hid (ok = decide ((m : Int) ≤ 600)) := by unfold Hid; rw [hR.out, ht.out, hf.out, ho]; rfl
  clear hR ht hf ho
  go_wp2_with fail
  go_ret
  exact ⟨by rw [hR2.out]; rfl, x3.out⟩
end Go.Proofs.YtbnjmmefnjoofaaDoor
end

section
/-
  append onto an empty literal: nothing old turns.
-/
namespace Go.Proofs.YtbnjmmefnjoofaaDoor
open Go.ChangeShapes Go.WideShapes Go.ChangeAt Go.RowKit Go.Deep
set_option maxRecDepth 100000

theorem append_empty {w : World} {a : Addr} {A' : Option Addr} {m c' : Nat} {ys : List UInt8} (ty : TypeId) (hr : Bs w A' m c' ys) (hm : m ≤ 100000000) :
    ∃ A'' c'' w', (Builtin.append_ #[35, 35] ty #[.slice (some a) 0 0, .slice A' m c']).run Tryd.prog w = .ok (.slice A'' m c'') w' ∧ Bs w' A'' m c'' ys ∧ Ext w w' ∧ (0 < m → ∀ q, A'' = some q → q.block = w.heap.size) := by
  obtain ⟨i, hi, hz0, hz1, hz2⟩ := info_parts info8
  rcases Nat.eq_zero_or_pos m with h0 | h0
  · subst h0
    have hy := hr.zero
    subst hy
    have hsrc : Src Tryd.prog i.size 35 (.slice A' 0 c') 0 [] w := by
      rcases A' with _ | a'
      · exact Src.ofNil w Tryd.underlying35 c'
      · exact Src.ofSlice w Tryd.underlying35 a' 0 c' [] (by simp) (fun j u hu => by simp at hu) (fun u hu => by simp at hu)
    exact ⟨some a, 0, w, run_append_nothing w 35 35 ty 5 i Tryd.underlying35 hi (some a) 0 0 (Nat.le_refl _) _ hsrc, ⟨rfl, Nat.le_refl _, Nat.zero_le _, fun h => absurd h (by omega)⟩, Ext.refl w, fun h => absurd h (by omega)⟩
  · obtain ⟨b, off, rfl, hb, hc⟩ := hr.pos h0
    have hl := hr.len
    have hrun := run_append_grow (P := Tryd.prog) w 35 ty 5 i (.int .u8 0) Tryd.underlying35 hi hz0 a 0 0 [] (by simp) (fun j v hv => by simp at hv) ⟨b, off, none⟩ m c' (ys.map u8v) (by rw [List.length_map, hl, hz1, Nat.mul_one]) (fun j u hu => by
        have hj : j < ys.length := by
          rcases Nat.lt_or_ge j ys.length with h | h
          · exact h
          · simp [h] at hu
        have hplain : (⟨b, off, none⟩ : Addr).add j = ⟨b, off + j, none⟩ := by unfold Addr.add; split <;> simp_all
        rw [hplain, hc j (by omega), ← u8v_bt hj, hu]) (by omega) (by omega) (by rw [hz2]; simp [Builtin.nextslicecap]; split <;> omega)
    rw [Nat.zero_add] at hrun
    refine ⟨_, _, _, hrun, ⟨hl, grownCap_ge w m 0 5, grownCap_le_maxLen w m 0 5 (by unfold maxLen; omega), fun _ => ⟨w.heap.size, 0, rfl, by simp [World.alloc], fun j hj => ?_⟩⟩, ((Ext.refl w).drew).alloc _, fun _ q hq => by cases hq; rfl⟩
    have hn := heap_alloc_new w.drew (.cells (([] : List Value).toArray ++ (ys.map u8v).toArray ++ Builtin.zeroCells (Value.int .u8 0).cells (grownCap w m 0 5 - m)) 5)
    refine (cell_of_row _ _ (0 + j) _ _ (0, 0) hn).trans ?_
    rw [Nat.zero_add]
    rw [Array.getElem?_append_left (by simp; omega)]
    simp only [List.append_toArray, List.nil_append, List.getElem?_toArray]
    exact u8v_bt (by omega)

theorem wp_append_empty {w : World} {o : Oper} {a : Act} {K : Act → World → Prop} {Q : Exit → Act → World → Prop} {p : Addr} {A' : Option Addr} {m c' : Nat} {ys : List UInt8} {s x : Operand}
    (ho : o.op = .call { callee := .builtin .append, args := #[s, x], argTypes := #[35, 35] }) (hs : a.eval s = .slice (some p) 0 0) (hx : a.eval x = .slice A' m c')
    (hr : Bs w A' m c' ys) (hm : m ≤ 100000000)
    (hK : ∀ A'' c'' w', Bs w' A'' m c'' ys → Ext w w' → K (a.put o.dst (.slice A'' m c'')) w') : o.wp Tryd.prog a w K Q := by
  obtain ⟨A'', c'', w', hrun, h2, h3, _⟩ := append_empty (a := p) o.type hr hm
  unfold Oper.wp execOp
  simp only [ho, resolve, invoke, builtin, Sem.run_bind, Sem.run_pure, Result.andThen_ok, List.map_toArray, List.map_cons, List.map_nil, hs, hx, hrun]
  exact hK A'' c'' w' h2 h3
theorem wpList_append_emptyN {w : World} {ops : Array Oper} {rest : List Oper} {o : Oper} {a : Act} {Q : Exit → Act → World → Prop} (hgd : o.guard = none) {p : Addr} {A' : Option Addr} {m c' : Nat} {ys : List UInt8} {s x : Operand}
    (ho : o.op = .call { callee := .builtin .append, args := #[s, x], argTypes := #[35, 35] }) (hs : a.eval s = .slice (some p) 0 0) (hx : a.eval x = .slice A' m c')
    (hr : Bs w A' m c' ys) (hm : m ≤ 100000000)
    (hK : ∀ A'' c'' w', Bs w' A'' m c'' ys → Ext w w' → (0 < m → ∀ q, A'' = some q → q.block = w.heap.size) → wpList Tryd.prog ops Q rest (a.put o.dst (.slice A'' m c'')) w') : wpList Tryd.prog ops Q (o :: rest) a w :=
  wpList_plain hgd fun K hK' => by
    obtain ⟨A'', c'', w', hrun, h2, h3, h4⟩ := append_empty (a := p) o.type hr hm
    unfold Oper.wp execOp
    simp only [ho, resolve, invoke, builtin, Sem.run_bind, Sem.run_pure, Result.andThen_ok, List.map_toArray, List.map_cons, List.map_nil, hs, hx, hrun]
    exact hK' _ _ (hK A'' c'' w' h2 h3 h4)
end Go.Proofs.YtbnjmmefnjoofaaDoor
end

section
/-
  append onto an empty literal: the new block is one of bytes.
-/
namespace Go.Proofs.YtbnjmmefnjoofaaDoor
open Go.ChangeShapes Go.WideShapes Go.ChangeAt Go.RowKit Go.Deep
set_option maxRecDepth 100000

/-- A slice that reads as bytes, in a block of bytes. -/
def BsT (w : World) (A : Option Addr) (n c : Nat) (xs : List UInt8) : Prop := Bs w A n c xs ∧ (0 < n → ∀ q, A = some q → ∃ cs, w.heap[q.block]? = some (.cells cs 5 (0, 0)))
theorem BsT.ext {w w' : World} {A : Option Addr} {n c : Nat} {xs : List UInt8} (h : BsT w A n c xs) (e : Ext w w') : BsT w' A n c xs :=
  ⟨h.1.ext e, fun h0 q hq => by
    obtain ⟨cs, hc⟩ := h.2 h0 q hq
    exact ⟨cs, (e.block _ (heap_lt hc)).trans hc⟩⟩
theorem BsT.row {w : World} {A : Option Addr} {n c g : Nat} {xs : List UInt8} {T : TypeId} {L : List Value} {C : Array Value} (h : BsT w A n c xs) (k : Cb w g T L) (ht : T ≠ 5) : BsT (w.setRow g C) A n c xs := by
  have hne : 0 < n → ∀ q, A = some q → q.block ≠ g := fun h0 q hq e => by
    obtain ⟨cs, hc⟩ := h.2 h0 q hq
    rw [e, k] at hc
    injection hc with hc
    injection hc with _ hc
    exact ht hc
  refine ⟨⟨h.1.1, h.1.2.1, h.1.2.2.1, fun h0 => ?_⟩, fun h0 q hq => ?_⟩
  · obtain ⟨b, off, hA, hb, hc⟩ := h.1.2.2.2 h0
    refine ⟨b, off, hA, by simpa using hb, fun j hj => ?_⟩
    rw [← hc j hj]
    simp only [World.cell?, setRow_other _ _ _ _ (hne h0 _ hA)]
  · obtain ⟨cs, hc⟩ := h.2 h0 q hq
    exact ⟨cs, (setRow_other _ _ _ _ (hne h0 q hq)).trans hc⟩
theorem append_emptyT {w : World} {a : Addr} {A' : Option Addr} {m c' : Nat} {ys : List UInt8} (ty : TypeId) (hr : Bs w A' m c' ys) (hm : m ≤ 100000000) :
    ∃ A'' c'' w', (Builtin.append_ #[35, 35] ty #[.slice (some a) 0 0, .slice A' m c']).run Tryd.prog w = .ok (.slice A'' m c'') w' ∧ Bs w' A'' m c'' ys ∧ Ext w w' ∧ (0 < m → ∀ q, A'' = some q → ∃ cs, w'.heap[q.block]? = some (.cells cs 5 (0, 0))) := by
  obtain ⟨i, hi, hz0, hz1, hz2⟩ := info_parts info8
  rcases Nat.eq_zero_or_pos m with h0 | h0
  · subst h0
    have hy := hr.zero
    subst hy
    have hsrc : Src Tryd.prog i.size 35 (.slice A' 0 c') 0 [] w := by
      rcases A' with _ | a'
      · exact Src.ofNil w Tryd.underlying35 c'
      · exact Src.ofSlice w Tryd.underlying35 a' 0 c' [] (by simp) (fun j u hu => by simp at hu) (fun u hu => by simp at hu)
    exact ⟨some a, 0, w, run_append_nothing w 35 35 ty 5 i Tryd.underlying35 hi (some a) 0 0 (Nat.le_refl _) _ hsrc, ⟨rfl, Nat.le_refl _, Nat.zero_le _, fun h => absurd h (by omega)⟩, Ext.refl w, fun h => absurd h (by omega)⟩
  · obtain ⟨b, off, rfl, hb, hc⟩ := hr.pos h0
    have hl := hr.len
    have hrun := run_append_grow (P := Tryd.prog) w 35 ty 5 i (.int .u8 0) Tryd.underlying35 hi hz0 a 0 0 [] (by simp) (fun j v hv => by simp at hv) ⟨b, off, none⟩ m c' (ys.map u8v) (by rw [List.length_map, hl, hz1, Nat.mul_one]) (fun j u hu => by
        have hj : j < ys.length := by
          rcases Nat.lt_or_ge j ys.length with h | h
          · exact h
          · simp [h] at hu
        have hplain : (⟨b, off, none⟩ : Addr).add j = ⟨b, off + j, none⟩ := by unfold Addr.add; split <;> simp_all
        rw [hplain, hc j (by omega), ← u8v_bt hj, hu]) (by omega) (by omega) (by rw [hz2]; simp [Builtin.nextslicecap]; split <;> omega)
    rw [Nat.zero_add] at hrun
    refine ⟨_, _, _, hrun, ⟨hl, grownCap_ge w m 0 5, grownCap_le_maxLen w m 0 5 (by unfold maxLen; omega), fun _ => ⟨w.heap.size, 0, rfl, by simp [World.alloc], fun j hj => ?_⟩⟩, ((Ext.refl w).drew).alloc _, fun _ q hq => by cases hq; exact ⟨_, heap_alloc_new _ _⟩⟩
    have hn := heap_alloc_new w.drew (.cells (([] : List Value).toArray ++ (ys.map u8v).toArray ++ Builtin.zeroCells (Value.int .u8 0).cells (grownCap w m 0 5 - m)) 5)
    refine (cell_of_row _ _ (0 + j) _ _ (0, 0) hn).trans ?_
    rw [Nat.zero_add]
    rw [Array.getElem?_append_left (by simp; omega)]
    simp only [List.append_toArray, List.nil_append, List.getElem?_toArray]
    exact u8v_bt (by omega)

theorem wp_append_emptyT {w : World} {o : Oper} {a : Act} {K : Act → World → Prop} {Q : Exit → Act → World → Prop} {p : Addr} {A' : Option Addr} {m c' : Nat} {ys : List UInt8} {s x : Operand}
    (ho : o.op = .call { callee := .builtin .append, args := #[s, x], argTypes := #[35, 35] }) (hs : a.eval s = .slice (some p) 0 0) (hx : a.eval x = .slice A' m c')
    (hr : Bs w A' m c' ys) (hm : m ≤ 100000000)
    (hK : ∀ A'' c'' w', BsT w' A'' m c'' ys → Ext w w' → K (a.put o.dst (.slice A'' m c'')) w') : o.wp Tryd.prog a w K Q := by
  obtain ⟨A'', c'', w', hrun, h2, h3, h4⟩ := append_emptyT (a := p) o.type hr hm
  unfold Oper.wp execOp
  simp only [ho, resolve, invoke, builtin, Sem.run_bind, Sem.run_pure, Result.andThen_ok, List.map_toArray, List.map_cons, List.map_nil, hs, hx, hrun]
  exact hK A'' c'' w' ⟨h2, h4⟩ h3
end Go.Proofs.YtbnjmmefnjoofaaDoor
end

section
/-
  A row of the call's own that is appended to, whose elements have several cells. No conditions.
-/
namespace Go.Proofs.YtbnjmmefnjoofaaDoor
open Go.ChangeShapes Go.WideShapes Go.ChangeAt Go.RowKit Go.Deep

/-- The slice owns a row from block B on, whose elements have the cells of L, s each. -/
def OwnC (B : Nat) (w : World) (e : TypeId) (s : Nat) (A : Option Addr) (n c : Nat) (L : List (List Value)) : Prop := w.ownsRow B e s (.slice A n c) n L.flatten ∧ (∀ x ∈ L, x.length = s) ∧ L.length = n
section
variable {B : Nat} {w w' : World} {e : TypeId} {s : Nat} {A : Option Addr} {n c : Nat} {L : List (List Value)}
theorem OwnC.nil (B : Nat) (w : World) (e : TypeId) (s : Nat) : OwnC B w e s none 0 0 [] := ⟨World.ownsRow_nil w B _ s, fun x hx => by simp at hx, rfl⟩
theorem OwnC.ge (h : OwnC B w e s A n c L) : ∀ g, Value.ownBlock (.slice A n c) = some g → B ≤ g := fun g hg => (World.ownsRow.lt h.1 g hg).1
theorem OwnC.ext (h : OwnC B w e s A n c L) (x : Ext w w') : OwnC B w' e s A n c L := by
  refine ⟨⟨h.1.1, ?_⟩, h.2⟩
  rcases h.1.2 with h | ⟨g, cap, cur, hv, hb, hg, r⟩
  · exact .inl h
  · exact .inr ⟨g, cap, cur, hv, hb, (x.block g (heap_lt hg)).trans hg, r⟩
theorem OwnC.kept {row : Option Nat} (h : OwnC B w e s A n c L) (hg : w.grownBy w' row) (hne : Value.ownBlock (.slice A n c) = none ∨ Value.ownBlock (.slice A n c) ≠ row) : OwnC B w' e s A n c L := by
  refine ⟨⟨h.1.1, ?_⟩, h.2⟩
  rcases h.1.2 with h | ⟨g, cap, cur, hv, hb, hgg, r⟩
  · exact .inl h
  · refine .inr ⟨g, cap, cur, hv, hb, (hg.block g (heap_lt hgg) ?_).trans hgg, r⟩
    intro q
    rw [hv] at hne
    rcases hne with q1 | q1
    · simp [Value.ownBlock] at q1
    · exact q1 (by simp [Value.ownBlock, q])
theorem OwnC.cap (h : OwnC B w e s A n c L) : n ≤ c ∧ c ≤ maxLen := by
  rcases h.1.2 with ⟨hv, hn⟩ | ⟨g, cap, cur, hv, hb, hg, hnc, hcm, _⟩
  · injection hv with _ _ q
    omega
  · injection hv with _ _ q
    subst q
    exact ⟨hnc, hcm⟩
theorem OwnC.cells (h : OwnC B w e s A n c L) : 0 < n → ∃ b, A = some ⟨b, 0, none⟩ ∧ b < w.heap.size ∧ B ≤ b ∧ ∀ q v, L.flatten[q]? = some v → w.cell? ⟨b, q, none⟩ = some v := fun h0 => by
  rcases h.1.2 with ⟨hv, hn⟩ | ⟨g, cap, cur, hv, hb, hg, hnc, hcm, hcs, htk⟩
  · omega
  · injection hv with h1 h2 h3
    subst h1
    refine ⟨g, rfl, heap_lt hg, hb, fun q v hq => ?_⟩
    rw [← htk, List.getElem?_take] at hq
    split at hq
    · rw [cell_of_row w g _ _ _ _ hg]
      simpa using hq
    · cases hq
end
theorem flat_at {α : Type} {s : Nat} : ∀ {L : List (List α)}, (∀ x ∈ L, x.length = s) → ∀ {j i : Nat}, j < L.length → i < s → L.flatten[j * s + i]? = (L.getD j [])[i]?
  | [], _, j, _, h, _ => absurd h (by simp)
  | x :: L, hl, 0, i, _, hi => by
    have hx := hl x (List.mem_cons_self ..)
    rw [List.flatten_cons, List.getElem?_append_left (by omega)]
    simp
  | x :: L, hl, j + 1, i, hj, hi => by
    have hx := hl x (List.mem_cons_self ..)
    rw [List.flatten_cons, List.getElem?_append_right (by rw [hx, Nat.add_mul]; omega), hx, show (j + 1) * s + i - s = j * s + i by rw [Nat.add_mul]; omega, flat_at (fun y hy => hl y (List.mem_cons_of_mem _ hy)) (by simpa using hj) hi]
    simp
theorem wpList_append_c {P : Program} {w : World} {ops : Array Oper} {rest : List Oper} {o : Oper} {a : Act} {Q : Exit → Act → World → Prop} (hgd : o.guard = none) {B : Nat} {t e te : TypeId} {s bytes : Nat} {z : Value} (ht : P.underlying t = some (.slice e)) (hinfo : (P.info? e).map (fun i => (i.zero, i.size, i.bytes)) = some (some z, s, bytes)) (hzs : z.cells.size = s) (s0 : 0 < s) (hbytes : bytes ≤ 1000000)
    {A : Option Addr} {n c g : Nat} {L : List (List Value)} {cs : List Value} {fr : Nat × Nat} {x y : Operand}
    (ho : o.op = .call { callee := .builtin .append, args := #[x, y], argTypes := #[t, t] }) (hx : a.eval x = .slice A n c) (hy : a.eval y = .slice (some ⟨g, 0, none⟩) 1 1)
    (h : OwnC B w e s A n c L) (hg : w.heap[g]? = some (.cells cs.toArray te fr)) (hk : cs.length = s) (h1 : ∀ u ∈ cs, u.oneCell' = true) (hm : n ≤ 1000) (hB : B ≤ w.heap.size)
    (hK : ∀ A'' c'' w', OwnC B w' e s A'' (n + 1) c'' (L ++ [cs]) → w.grownBy w' (Value.ownBlock (.slice A n c)) → Below B w w' → wpList P ops Q rest (a.put o.dst (.slice A'' (n + 1) c'')) w') : wpList P ops Q (o :: rest) a w := by
  refine wpList_plain hgd fun K hK' => ?_
  obtain ⟨i, hi, hz0, hz1, hz2⟩ := info_parts hinfo
  obtain ⟨v', w', hr, hown, hgr, _, _⟩ := run_append_own_at (P := P) w B t o.type e i z s bytes ht hi hz0 hz1 hz2 hzs s0 (.slice A n c) n L.flatten h.1 ⟨g, 0, none⟩ 1 1 cs (by rw [hk, Nat.one_mul]) (fun j u hu => by
    have hadd : (⟨g, 0, none⟩ : Addr).add j = ⟨g, j, none⟩ := by unfold Addr.add; split <;> simp_all
    rw [hadd, cell_of_row w g j _ _ _ hg]
    simpa using hu) h1 (by unfold maxLen; omega) (by
      have : (n + 1) * bytes ≤ 1001 * 1000000 := Nat.mul_le_mul (by omega) hbytes
      omega) hB
  have ee : L.flatten ++ cs = (L ++ [cs]).flatten := by simp
  rw [ee] at hown
  have hl1 : ∀ x ∈ L ++ [cs], x.length = s := fun x hx => by
    rcases List.mem_append.1 hx with q | q
    · exact h.2.1 x q
    · simp at q; subst q; exact hk
  have hl2 : (L ++ [cs]).length = n + 1 := by rw [List.length_append, h.2.2]; rfl
  have hform : ∃ A'' c'', v' = .slice A'' (n + 1) c'' := by
    rcases hown.2 with ⟨hv, hn⟩ | ⟨g', cap, cur, hv, _⟩
    · omega
    · exact ⟨_, _, hv⟩
  obtain ⟨A'', c'', rfl⟩ := hform
  unfold Oper.wp execOp
  simp only [ho, resolve, invoke, builtin, Sem.run_bind, Sem.run_pure, Result.andThen_ok, List.map_toArray, List.map_cons, List.map_nil, hx, hy, hr]
  exact hK' _ _ (hK A'' c'' w' ⟨hown, hl1, hl2⟩ hgr ((Below.refl B w).grown hgr hB h.ge))
/-- A slice of one element. -/
theorem wpList_slice_c {P : Program} {w : World} {ops : Array Oper} {rest : List Oper} {o : Oper} {a : Act} {Q : Exit → Act → World → Prop} (hgd : o.guard = none) {t e : TypeId} {s bytes : Nat} {z : Value} (ht : P.underlying t = some (.slice e)) (hinfo : (P.info? e).map (fun i => (i.zero, i.size, i.bytes)) = some (some z, s, bytes)) (hzs : z.cells.size = s) (s0 : 0 < s) (s1 : s ≤ 1000000)
    {cs : List Value} {x : Operand} {g : Nat} (hk : cs.length = s) (hg : w.heap.size = g)
    (ho : o.op = .buildSlice t 1 #[(0, x)]) (hx : (a.eval x).cells = cs.toArray)
    (h : wpList P ops Q rest (a.put o.dst (.slice (some ⟨g, 0, none⟩) 1 1)) (w.alloc (.cells cs.toArray e))) : wpList P ops Q (o :: rest) a w := by
  subst hg
  obtain ⟨i, hi, hz0, hz1, hz2⟩ := info_parts hinfo
  refine wpList_buildSlice hgd t e 1 _ ho cs.toArray i _ ht hi hz0 (by rw [hz1]; omega) (by rw [hz1]; omega) ?_ h
  rw [hz1]
  simp only [List.map_toArray, List.map_cons, List.map_nil]
  have := Great.fill_whole (s := s) s0 [a.eval x] ((Array.range (1 * s)).map (z.cells[· % z.cells.size]!)) (fun v hv => by
    simp only [List.mem_singleton] at hv
    subst hv
    rw [hx]
    simpa using hk) (by simp)
  simp only [List.zipIdx_cons, List.zipIdx_nil, List.map_cons, List.map_nil, List.flatMap_cons, List.flatMap_nil, List.append_nil, hx] at this
  exact this
end Go.Proofs.YtbnjmmefnjoofaaDoor
end

section
/-
  A stamp's cells. No conditions.
-/
namespace Go.Proofs.YtbnjmmefnjoofaaDoor
open Go.ChangeShapes Go.WideShapes Go.ChangeAt Go.RowKit Go.Deep
set_option maxRecDepth 100000

/-- A stamp's cells. -/
def stC (ep f t tm : Int) (c g : List UInt8) : List Value := [.int .i64 ep, .int .i64 f, .int .i64 t, .int .i64 tm] ++ (cellsOf c ++ cellsOf g)
theorem stC_len {c g : List UInt8} (hc : c.length = 32) (hg : g.length = 32) (ep f t tm : Int) : (stC ep f t tm c g).length = 68 := by simp [stC, cellsOf_len, hc, hg]

theorem one_st {ep f t tm : Int} {c g : List UInt8} : ∀ v ∈ stC ep f t tm c g, v.oneCell' = true := fun v hv => by
  simp only [stC, List.mem_append, List.mem_cons, List.not_mem_nil, or_false] at hv
  rcases hv with (rfl | rfl | rfl | rfl) | h | h
  · rfl
  · rfl
  · rfl
  · rfl
  · exact one_mem _ v h
  · exact one_mem _ v h
end Go.Proofs.YtbnjmmefnjoofaaDoor
end

section
/-
  Envelopes that wait: their data, their cells, the state of a box, worlds in which only blocks of some types turn. No conditions.
-/
namespace Go.Proofs.YtbnjmmefnjoofaaDoor
open Go.ChangeShapes Go.WideShapes Go.ChangeAt Go.RowKit Go.Deep
set_option maxRecDepth 100000

structure Ml where
  id : Int
  f : Int
  t : Int
  cm : List UInt8
  pk : List UInt8
  p : Int
  n : Int
  body : List UInt8
  ep : Int
  sf : Int
  st : Int
  tm : Int
  sc : List UInt8
  sg : List UInt8
def Ml.ok (x : Ml) : Prop := (x.cm.length = 32 ∧ x.pk.length = 32) ∧ (x.sc.length = 32 ∧ x.sg.length = 32) ∧ x.body.length ≤ 1000
/-- One with the place of its bytes. -/
structure Wm where
  d : Ml
  A : Option Addr
  c : Nat
def Wm.ev (x : Wm) : List Value := evC x.d.f x.d.t x.d.cm x.d.pk x.d.p x.d.n x.A x.d.body.length x.c
def Ml.stm (d : Ml) : List Value := stC d.ep d.sf d.st d.tm d.sc d.sg
def Wm.C (x : Wm) : List Value := [.int .i64 x.d.id] ++ (x.ev ++ x.d.stm)
theorem Wm.ev_len {x : Wm} (h : x.d.ok) : x.ev.length = 69 := evC_len h.1.1 h.1.2 _ _ _ _ _ _ _
theorem Ml.stm_len {d : Ml} (h : d.ok) : d.stm.length = 68 := stC_len h.2.1.1 h.2.1.2 _ _ _ _
theorem Wm.C_len {x : Wm} (h : x.d.ok) : x.C.length = 138 := by simp [Wm.C, x.ev_len h, x.d.stm_len h]
theorem Wm.one (x : Wm) : ∀ v ∈ x.C, v.oneCell' = true := fun v hv => by
  simp only [Wm.C, List.mem_append, List.mem_cons, List.not_mem_nil, or_false] at hv
  rcases hv with rfl | h | h
  · rfl
  · exact one_ev v h
  · exact one_st v h
theorem Wm.c0 (x : Wm) : x.C[0]? = some (.int .i64 x.d.id) := rfl
theorem Wm.c69 {x : Wm} (h : x.d.ok) : x.C[69]? = some (.slice x.A x.d.body.length x.c) := by
  have q : x.C = [.int .i64 x.d.id] ++ (x.ev ++ x.d.stm) := rfl
  rw [q, List.getElem?_append_right (by simp), List.getElem?_append_left (by rw [x.ev_len h]; simp)]
  exact (ev_cells h.1.1 h.1.2 x.d.f x.d.t x.d.p x.d.n x.A x.d.body.length x.c).2.2.1
theorem Wm.c73 {x : Wm} (h : x.d.ok) : x.C[73]? = some (.int .i64 x.d.tm) := by
  have q : x.C = [.int .i64 x.d.id] ++ (x.ev ++ x.d.stm) := rfl
  rw [q, List.getElem?_append_right (by simp), List.getElem?_append_right (by rw [x.ev_len h]; simp), x.ev_len h]
  rfl
theorem Wm.set69 {x : Wm} (h : x.d.ok) (A : Option Addr) (c : Nat) : x.C.set 69 (Value.slice A x.d.body.length c) = (⟨x.d, A, c⟩ : Wm).C := by
  have l2 : x.d.cm.length = 32 := h.1.1
  have l3 := hdC_len h.1.2 x.d.p x.d.n
  show (([Value.int .i64 x.d.id] ++ (([Value.int .i64 x.d.f, .int .i64 x.d.t] ++ (cellsOf x.d.cm ++ (hdC x.d.pk x.d.p x.d.n ++ [Value.slice x.A x.d.body.length x.c]))) ++ x.d.stm)) : List Value).set 69 (Value.slice A x.d.body.length c) = _
  rw [List.set_append_right _ _ (by simp), List.set_append_left _ _ (by simp [cellsOf_len, l2, l3]), List.set_append_right _ _ (by simp), List.set_append_right _ _ (by simp [cellsOf_len, l2]), List.set_append_right _ _ (by simp [cellsOf_len, l2, l3])]
  simp [cellsOf_len, l2, l3, Wm.C, Wm.ev, evC]

/-- A slice that reads as bytes, in a block of bytes from B on. -/
def BsF (B : Nat) (w : World) (A : Option Addr) (n c : Nat) (xs : List UInt8) : Prop := Bs w A n c xs ∧ (0 < n → ∀ q, A = some q → B ≤ q.block ∧ ∃ cs, w.heap[q.block]? = some (.cells cs 5 (0, 0)))
theorem BsF.keep {B : Nat} {w w' : World} {A : Option Addr} {n c : Nat} {xs : List UInt8} (h : BsF B w A n c xs) (K : ∀ i cs, w.heap[i]? = some (.cells cs 5 (0, 0)) → B ≤ i → w'.heap[i]? = some (.cells cs 5 (0, 0))) : BsF B w' A n c xs := by
  refine ⟨⟨h.1.1, h.1.2.1, h.1.2.2.1, fun h0 => ?_⟩, fun h0 q hq => ?_⟩
  · obtain ⟨b, off, hA, hb, hc⟩ := h.1.2.2.2 h0
    obtain ⟨h1, cs, h2⟩ := h.2 h0 _ hA
    have h3 := K _ _ h2 h1
    exact ⟨b, off, hA, heap_lt h3, fun j hj => (World.cell?_of_block (w := w) (a := ⟨b, off + j, none⟩) (h3.trans h2.symm)).trans (hc j hj)⟩
  · obtain ⟨h1, cs, h2⟩ := h.2 h0 q hq
    exact ⟨h1, cs, K _ _ h2 h1⟩
theorem BsF.ext {B : Nat} {w w' : World} {A : Option Addr} {n c : Nat} {xs : List UInt8} (h : BsF B w A n c xs) (e : Ext w w') : BsF B w' A n c xs := h.keep fun _ _ q _ => (e.block _ (heap_lt q)).trans q
theorem BsF.mono {B B' : Nat} {w : World} {A : Option Addr} {n c : Nat} {xs : List UInt8} (h : BsF B w A n c xs) (hB : B' ≤ B) : BsF B' w A n c xs := ⟨h.1, fun h0 q hq => ⟨Nat.le_trans hB (h.2 h0 q hq).1, (h.2 h0 q hq).2⟩⟩

/-- The state of a box at block g: those that are kept, the last number. -/
def MB (TB TM : TypeId) (B : Nat) (w : World) (g : Nat) (L : List Wm) (last : Int) : Prop :=
  ∃ A n c, Cb w g TB [.slice A n c, .int .i64 last] ∧ OwnC B w TM 138 A n c (L.map Wm.C) ∧ ∀ x ∈ L, x.d.ok ∧ BsF B w x.A x.d.body.length x.c x.d.body
section
variable {TB TM : TypeId} {B : Nat} {w w' : World} {g : Nat} {L : List Wm} {last : Int}
theorem OwnC.keep {e : TypeId} {s : Nat} {A : Option Addr} {n c : Nat} {L : List (List Value)} (h : OwnC B w e s A n c L) (K : ∀ i cs, w.heap[i]? = some (.cells cs e (0, 0)) → B ≤ i → w'.heap[i]? = some (.cells cs e (0, 0))) : OwnC B w' e s A n c L := by
  refine ⟨⟨h.1.1, ?_⟩, h.2⟩
  rcases h.1.2 with h | ⟨g, cap, cur, hv, hb, hg, r⟩
  · exact .inl h
  · exact .inr ⟨g, cap, cur, hv, hb, K _ _ hg hb, r⟩
theorem MB.keep (h : MB TB TM B w g L last) (K : ∀ i cs t, w.heap[i]? = some (.cells cs t (0, 0)) → (i = g ∧ t = TB ∨ B ≤ i ∧ (t = TM ∨ t = 5)) → w'.heap[i]? = some (.cells cs t (0, 0))) : MB TB TM B w' g L last := by
  obtain ⟨A, n, c, h1, h2, h3⟩ := h
  exact ⟨A, n, c, K _ _ _ h1 (.inl ⟨rfl, rfl⟩), h2.keep fun i cs hi hb => K i cs _ hi (.inr ⟨hb, .inl rfl⟩), fun x hx => ⟨(h3 x hx).1, (h3 x hx).2.keep fun i cs hi hb => K i cs _ hi (.inr ⟨hb, .inr rfl⟩)⟩⟩
theorem MB.ext (h : MB TB TM B w g L last) (e : Ext w w') : MB TB TM B w' g L last := h.keep fun _ _ _ q _ => (e.block _ (heap_lt q)).trans q
theorem MB.lt (h : MB TB TM B w g L last) : g < w.heap.size := by
  obtain ⟨A, n, c, h1, _⟩ := h
  exact heap_lt h1
/-- A block of another type, or from below, turns. -/
theorem MB.other {r : Nat} {C : Array Value} (h : MB TB TM B w g L last) (k : ∀ cs t, w.heap[r]? = some (.cells cs t (0, 0)) → ¬(r = g ∧ t = TB ∨ B ≤ r ∧ (t = TM ∨ t = 5))) : MB TB TM B (w.setRow r C) g L last := h.keep fun i cs t q z => by
  by_cases e : i = r
  · subst e
    exact absurd z (k _ _ q)
  · exact (setRow_other _ _ _ _ e).trans q
theorem MB.len {n c : Nat} {A : Option Addr} (h : OwnC B w TM 138 A n c (L.map Wm.C)) : L.length = n := by have := h.2.2; rwa [List.length_map] at this
end

/-- Blocks are as they were, but those from B on whose type is among S. -/
def tagIn (S : TypeId → Bool) : Obj → Bool
  | .cells _ t _ => S t
  | _ => false
def Tb (B : Nat) (S : TypeId → Bool) (a b : World) : Prop := b.os = a.os ∧ b.tape = a.tape ∧ b.output = a.output ∧ a.heap.size ≤ b.heap.size ∧ ∀ i o, a.heap[i]? = some o → (i < B ∨ tagIn S o = false) → b.heap[i]? = some o
section
variable {B : Nat} {S : TypeId → Bool} {a b c : World}
theorem Tb.refl (B : Nat) (S : TypeId → Bool) (w : World) : Tb B S w w := ⟨rfl, rfl, rfl, Nat.le_refl _, fun _ _ h _ => h⟩
theorem Tb.trans (h : Tb B S a b) (k : Tb B S b c) : Tb B S a c := ⟨k.1.trans h.1, k.2.1.trans h.2.1, k.2.2.1.trans h.2.2.1, Nat.le_trans h.2.2.2.1 k.2.2.2.1, fun i o hi hc => k.2.2.2.2 i o (h.2.2.2.2 i o hi hc) hc⟩
theorem Tb.of_ext (h : Ext a b) : Tb B S a b := ⟨h.os, h.tape, h.output, h.size, fun _ _ hi _ => (h.block _ (heap_lt hi)).trans hi⟩
theorem Tb.drew (h : Tb B S a b) : Tb B S a b.drew := h
theorem Tb.size (h : Tb B S a b) : a.heap.size ≤ b.heap.size := h.2.2.2.1
theorem Tb.mono {B' : Nat} (h : Tb B S a b) (hB : B' ≤ B) : Tb B' S a b := ⟨h.1, h.2.1, h.2.2.1, h.2.2.2.1, fun i o hi hc => h.2.2.2.2 i o hi (hc.imp (fun q => Nat.lt_of_lt_of_le q hB) id)⟩
theorem Tb.row {g : Nat} {t : TypeId} {L : List Value} (C : Array Value) (h : Cb a g t L) (hB : B ≤ g) (hS : S t = true) : Tb B S a (a.setRow g C) := ⟨rfl, rfl, rfl, by simp, fun i o hi hc => by
  by_cases e : i = g
  · subst e
    rw [h] at hi
    injection hi with hi
    subst hi
    rcases hc with q | q
    · omega
    · rw [show tagIn S _ = S t from rfl, hS] at q; cases q
  · exact (setRow_other _ _ _ _ e).trans hi⟩
theorem Tb.cell {g : Nat} {t : TypeId} {L : List Value} (o : Nat) (u : Value) (h : Cb a g t L) (hB : B ≤ g) (hS : S t = true) : Tb B S a (a.setCell ⟨g, o, none⟩ u) := ⟨rfl, rfl, rfl, by simp [World.setCell], fun i o' hi hc => by
  by_cases e : i = g
  · subst e
    rw [h] at hi
    injection hi with hi
    subst hi
    rcases hc with q | q
    · omega
    · rw [show tagIn S _ = S t from rfl, hS] at q; cases q
  · exact (Below.heap_setCell _ _ _ _ e).trans hi⟩
theorem Tb.grown {row : Option Nat} (h : a.grownBy b row) (hr : ∀ k, row = some k → B ≤ k ∧ ∀ o, a.heap[k]? = some o → tagIn S o = true) : Tb B S a b := ⟨h.os, h.tape, h.output, h.size, fun i o hi hc => by
  refine (h.block i (heap_lt hi) fun q => ?_).trans hi
  obtain ⟨h1, h2⟩ := hr i q.symm
  rcases hc with z | z
  · omega
  · rw [h2 o hi] at z; cases z⟩
theorem Tb.below (h : Tb B S a b) (hB : B ≤ a.heap.size) : Below B a b := ⟨h.1, h.2.1, h.2.2.1, h.2.2.2.1, fun i hi => by
  obtain ⟨o, ho⟩ : ∃ o, a.heap[i]? = some o := ⟨_, Array.getElem?_eq_getElem (by omega)⟩
  rw [ho]
  exact h.2.2.2.2 i o ho (.inl hi)⟩
/-- What was there ahead is as it was. -/
theorem Tb.ext {w0 : World} (h : Ext w0 a) (k : Tb w0.heap.size S a b) : Ext w0 b := Below.trans h (k.below h.size)
theorem Tb.cb {g : Nat} {t : TypeId} {L : List Value} (h : Tb B S a b) (k : Cb a g t L) (ht : S t = false) : Cb b g t L := h.2.2.2.2 _ _ k (.inr ht)
theorem BsF.tb {B' : Nat} {A : Option Addr} {n m : Nat} {xs : List UInt8} (k : BsF B' a A n m xs) (h : Tb B S a b) (ht : S 5 = false) : BsF B' b A n m xs := k.keep fun _ _ q _ => h.2.2.2.2 _ _ q (.inr ht)
theorem MB.tb {TB TM : TypeId} {B' g : Nat} {L : List Wm} {last : Int} (k : MB TB TM B' a g L last) (h : Tb B S a b) (h1 : S TB = false) (h2 : S TM = false) (h3 : S 5 = false) : MB TB TM B' b g L last := k.keep fun _ _ _ q z => h.2.2.2.2 _ _ q (.inr (by
  show S _ = false
  rcases z with ⟨_, rfl⟩ | ⟨_, rfl | rfl⟩
  · exact h1
  · exact h2
  · exact h3))
end
theorem OwnC.tag {B : Nat} {w : World} {e : TypeId} {s : Nat} {A : Option Addr} {n c : Nat} {L : List (List Value)} {S : TypeId → Bool} (h : OwnC B w e s A n c L) (hS : S e = true) : ∀ k, Value.ownBlock (.slice A n c) = some k → B ≤ k ∧ ∀ o, w.heap[k]? = some o → tagIn S o = true := fun k hk => by
  refine ⟨h.ge k hk, fun o ho => ?_⟩
  rcases h.1.2 with ⟨hv, _⟩ | ⟨g, cap, cur, hv, _, hg, _⟩
  · rw [hv] at hk; cases hk
  · rw [hv] at hk
    injection hk with hk
    subst hk
    rw [hg] at ho
    injection ho with ho
    subst ho
    exact hS
theorem OwnC.row {B : Nat} {w : World} {e : TypeId} {s r : Nat} {A : Option Addr} {n c : Nat} {L : List (List Value)} {C : Array Value} {t : TypeId} {K : List Value} (h : OwnC B w e s A n c L) (k : Cb w r t K) (ht : t ≠ e) : OwnC B (w.setRow r C) e s A n c L := h.keep fun i cs hi _ => by
  by_cases q : i = r
  · subst q
    rw [k] at hi
    injection hi with hi
    injection hi with _ hi
    exact absurd hi ht
  · exact (setRow_other _ _ _ _ q).trans hi
end Go.Proofs.YtbnjmmefnjoofaaDoor
end
