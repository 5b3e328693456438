import Derived.Test.YtmnohmhhmaeljaaDoorPkK
import Derived.Test.YtmnohmhhmaeljaaDoorKeyEq
import Derived.Lib.AppendStr
import Derived.Lib.AppendZerosOnto
import Derived.Test.YtmnohmhhmaeljaaDoorPkM
import Derived.Test.YtmnohmhhmaeljaaDoorPkL
section
/-
  append of a string's bytes, and of noughts, onto a row of the call's own.
-/
namespace Go.Proofs.YtmnohmhhmaeljaaDoor
open Go.ChangeShapes Go.WideShapes Go.ChangeAt Go.RowKit Go.Deep

/-- What a slice that owns a row looks like. -/
theorem own_form {w' : World} {B k : Nat} {v' : Value} {xs : List UInt8} (ho : w'.ownsRow B 5 1 v' k (xs.map u8v)) : ∃ A'' c'', v' = .slice A'' k c'' ∧ Own B w' A'' k c'' xs := by
  rcases ho.2 with ⟨hv, hn⟩ | ⟨g, cap, cur, hv, _⟩
  · refine ⟨none, 0, by rw [hv, hn], ?_⟩
    rw [hv] at ho
    unfold Own
    rw [show (Value.slice none k 0) = .slice none 0 0 by rw [hn]]
    exact ho
  · refine ⟨_, _, hv, ?_⟩
    rw [hv] at ho
    exact ho

theorem append_str {w : World} {B : Nat} {A : Option Addr} {n c : Nat} {xs ys : List UInt8} (ty : TypeId) (h : Own B w A n c xs) (hm : n + ys.length ≤ 140737488355328) (hB : B ≤ w.heap.size) :
    ∃ A'' c'' w', (Builtin.append_ #[22, 9] ty #[.slice A n c, .string (strL ys)]).run Tryd.prog w = .ok (.slice A'' (n + ys.length) c'') w' ∧ Own B w' A'' (n + ys.length) c'' (xs ++ ys) ∧ w.grownBy w' (Value.ownBlock (.slice A n c)) := by
  obtain ⟨i, hi, hz0, hz1, hz2⟩ := info_parts info8
  obtain ⟨v', w', hr, ho, hg, _⟩ := Lib.run_append_own_string (P := Tryd.prog) w B 22 9 ty 5 i Tryd.underlying22 Tryd.underlying9 hi hz0 hz1 hz2 (.slice A n c) n (xs.map u8v) h (strL ys) (by rw [strL_size]; unfold maxLen; omega) (by rw [strL_size]; exact hm) hB
  rw [strL_size] at ho
  have e : xs.map u8v ++ Lib.strCells (strL ys) = (xs ++ ys).map u8v := by
    rw [List.map_append]
    congr 1
  rw [e] at ho
  obtain ⟨A'', c'', rfl, ho'⟩ := own_form ho
  exact ⟨A'', c'', w', hr, ho', hg⟩

theorem wp_append_str {w : World} {o : Oper} {a : Act} {K : Act → World → Prop} {Q : Exit → Act → World → Prop} {B : Nat} {A : Option Addr} {n c : Nat} {xs ys : List UInt8} {s x : Operand}
    (ho : o.op = .call { callee := .builtin .append, args := #[s, x], argTypes := #[22, 9] }) (hs : a.eval s = .slice A n c) (hx : a.eval x = .string (strL ys))
    (h : Own B w A n c xs) (hm : n + ys.length ≤ 140737488355328) (hB : B ≤ w.heap.size)
    (hK : ∀ A'' c'' w', Own B w' A'' (n + ys.length) c'' (xs ++ ys) → w.grownBy w' (Value.ownBlock (.slice A n c)) → Below B w w' → K (a.put o.dst (.slice A'' (n + ys.length) c'')) w') : o.wp Tryd.prog a w K Q := by
  obtain ⟨A'', c'', w', hrun, h2, h3⟩ := append_str o.type h hm hB
  unfold Oper.wp execOp
  simp only [ho, resolve, invoke, builtin, Sem.run_bind, Sem.run_pure, Result.andThen_ok, List.map_toArray, List.map_cons, List.map_nil, hs, hx, hrun]
  exact hK A'' c'' w' h2 h3 ((Below.refl B w).grown h3 hB h.ge)

theorem wpList_append_str {w : World} {ops : Array Oper} {rest : List Oper} {o : Oper} {a : Act} {Q : Exit → Act → World → Prop} (hgd : o.guard = none) {B : Nat} {A : Option Addr} {n c : Nat} {xs ys : List UInt8} {s x : Operand}
    (ho : o.op = .call { callee := .builtin .append, args := #[s, x], argTypes := #[22, 9] }) (hs : a.eval s = .slice A n c) (hx : a.eval x = .string (strL ys))
    (h : Own B w A n c xs) (hm : n + ys.length ≤ 140737488355328) (hB : B ≤ w.heap.size)
    (hK : ∀ A'' c'' w', Own B w' A'' (n + ys.length) c'' (xs ++ ys) → w.grownBy w' (Value.ownBlock (.slice A n c)) → Below B w w' → wpList Tryd.prog ops Q rest (a.put o.dst (.slice A'' (n + ys.length) c'')) w') : wpList Tryd.prog ops Q (o :: rest) a w :=
  wpList_plain hgd fun _ hK' => wp_append_str ho hs hx h hm hB fun A'' c'' w' h2 h3 h4 => hK' _ _ (hK A'' c'' w' h2 h3 h4)

/-- One byte in a block of its own. -/
theorem Bs.one (w : World) (t : TypeId) (fr : Nat × Nat) (x : UInt8) : Bs (w.alloc (.cells #[.int .u8 (x.toNat : Int)] t fr)) (some ⟨w.heap.size, 0, none⟩) 1 1 [x] :=
  Bs.of_list rfl (heap_alloc_new _ _) ⟨rfl, by omega⟩
end Go.Proofs.YtmnohmhhmaeljaaDoor
end

section
/-
  append of so many noughts onto a row of the call's own.
-/
namespace Go.Proofs.YtmnohmhhmaeljaaDoor
open Go.ChangeShapes Go.WideShapes Go.ChangeAt Go.RowKit Go.Deep
set_option maxRecDepth 100000

theorem zeroCells_u8 (k : Nat) : Builtin.zeroCells (Value.int .u8 0).cells k = ((List.replicate k (0 : UInt8)).map u8v).toArray := by
  apply Array.ext'
  have h0 : (Value.int .u8 0).cells = #[Value.int .u8 0] := rfl
  simp [Builtin.zeroCells, h0, u8v]
  apply List.ext_getElem
  · simp
  · intro i h1 h2
    simp [Nat.mod_one]

theorem append_noughts {w : World} {B : Nat} {A : Option Addr} {n c k : Nat} {xs : List UInt8} (tn ty : TypeId) (htn : Tryd.prog.underlying tn = some (.int .i64)) (h : Own B w A n c xs) (hm : n + k ≤ 140737488355328) (hB : B ≤ w.heap.size) :
    ∃ A'' c'' w', (Builtin.append_ #[22, tn] ty #[.slice A n c, .int .i64 (k : Int)]).run Tryd.prog w = .ok (.slice A'' (n + k) c'') w' ∧ Own B w' A'' (n + k) c'' (xs ++ List.replicate k 0) ∧ w.grownBy w' (Value.ownBlock (.slice A n c)) := by
  obtain ⟨i, hi, hz0, hz1, hz2⟩ := info_parts info8
  have hl := h.len
  have hw : IntKind.i64.wrap (k : Int) = k := by rw [IntKind.wrap_i64]; omega
  have hneg : ¬ ((k : Int) < 0) := by omega
  have h48i : ¬ (281474976710656 < (k : Int) * (i.bytes : Int)) := by rw [hz2]; omega
  have grown : ∀ (old : Nat), old < n + k → ∀ (row : Option Nat),
      (w.drew.alloc (.cells ((xs.map u8v).toArray ++ Builtin.zeroCells (Value.int .u8 0).cells k ++ Builtin.zeroCells (Value.int .u8 0).cells (grownCap w (n + k) old 5 - (n + k))) 5)).ownsRow B 5 1
        (.slice (some ⟨w.heap.size, 0, none⟩) (n + k) (grownCap w (n + k) old 5)) (n + k) ((xs ++ List.replicate k 0).map u8v) ∧
      w.grownBy (w.drew.alloc (.cells ((xs.map u8v).toArray ++ Builtin.zeroCells (Value.int .u8 0).cells k ++ Builtin.zeroCells (Value.int .u8 0).cells (grownCap w (n + k) old 5 - (n + k))) 5)) row := by
    intro old ho row
    have hge := grownCap_ge w (n + k) old 5
    have hcm : grownCap w (n + k) old 5 ≤ maxLen := grownCap_le_maxLen w (n + k) old 5 (by unfold maxLen; omega)
    refine ⟨⟨by simp [hl], .inr ⟨w.heap.size, _, _, rfl, hB, heap_alloc_new w.drew _, hge, hcm, ?_, ?_⟩⟩, ⟨rfl, rfl, rfl, by simp, fun j hj _ => heap_alloc_old w.drew _ hj⟩⟩
    · have hz1 : (Value.int IntKind.u8 0).cells.size = 1 := rfl
      simp only [Array.size_append, List.size_toArray, size_zeroCells, hz1, List.length_map, hl]
      omega
    · rw [zeroCells_u8 k]
      simp only [Array.toList_append, List.append_assoc, List.map_append]
      rw [← List.append_assoc, ← List.map_append]
      exact List.take_left' (by simp [hl])
  by_cases hk : k = 0
  · subst hk
    have hw0 : IntKind.i64.wrap 0 = 0 := rfl
    refine ⟨A, c, w, ?_, by simpa using h, ⟨rfl, rfl, rfl, Nat.le_refl _, fun _ _ _ => rfl⟩⟩
    rcases h.2 with ⟨hv, hn⟩ | ⟨g, cap, cur, hv, _, _, hnc, _⟩
    · rw [hv]
      subst hn
      injection hv with q1 _ q3
      subst q1 q3
      simp [Builtin.append_, run_underlying Tryd.underlying22, run_underlying htn, sizeOf, typeInfo, hi, asInt, asIntOf, hw0]
    · rw [hv]
      injection hv with q1 _ q3
      subst q1 q3
      simp [Builtin.append_, run_underlying Tryd.underlying22, run_underlying htn, sizeOf, typeInfo, hi, asInt, asIntOf, hw0, hnc, storeCells]
  rcases h.2 with ⟨hv, hn⟩ | ⟨g, cap, cur, hv, hbg, hg, hnc, hcm, hcs, htake⟩
  · injection hv with q1 q2 q3
    subst q1 q3
    have hx : xs = [] := List.eq_nil_of_length_eq_zero (by omega)
    subst hx
    have hn0 : n = 0 := hn
    subst hn0
    have hr := Lib.run_append_grow_zeros (P := Tryd.prog) w 22 tn ty 5 i (.int .u8 0) .i64 .i64 Tryd.underlying22 htn hi hz0 none 0 0 [] (run_firstCells_none _ _ _ _ _) k (by omega) (by rw [hz1]; decide) (by omega) (by omega) (by rw [hz2]; omega) (growslice_fits (by omega) (by rw [hz2]; omega))
    have hgr := grown 0 (by omega) (Value.ownBlock (.slice none 0 0))
    exact ⟨_, _, _, hr, hgr.1, hgr.2⟩
  · injection hv with q1 q2 q3
    subst q1 q3
    by_cases hroom : n + k ≤ c
    · have hfit : n * 1 + ((List.replicate k (0 : UInt8)).map u8v).length ≤ cur.size := by rw [hcs]; simp; omega
      have hst := run_storeCells_at Tryd.prog g (n * 1) 5 ((List.replicate k (0 : UInt8)).map u8v) 0 cur w hg (by simpa using hfit) (fun u hu => by
        obtain ⟨x, _, rfl⟩ := List.mem_map.1 hu
        rfl)
      simp only [Nat.add_zero, Nat.mul_one] at hst
      have hzc := zeroCells_u8 k
      have hw' : IntKind.i64.wrap (k : Int) = k := hw
      simp only [List.map_replicate, List.length_replicate] at hst hzc
      refine ⟨some ⟨g, 0, none⟩, c, w.setRow g (cur.toList.take n ++ (List.replicate k (0 : UInt8)).map u8v ++ cur.toList.drop (n + ((List.replicate k (0 : UInt8)).map u8v).length)).toArray, ?_, ?_, ⟨rfl, rfl, rfl, by simp, fun j _ hj => setRow_other w g j _ (fun e => hj (by simp [Value.ownBlock, e]))⟩⟩
      · have hkz : ¬ (k * i.size = 0) := by rw [hz1]; omega
        simp [Builtin.append_, run_underlying Tryd.underlying22, run_underlying htn, sizeOf, typeInfo, zeroValue, hi, hz0, asInt, asIntOf, hw, hneg, h48i, hroom, hkz, hk, hz1, hzc, Addr.add_lit, hst]
      · refine ⟨by simp [hl], .inr ⟨g, c, _, rfl, hbg, setRow_heap w g cur _ 5 _ hg, hroom, hcm, ?_, ?_⟩⟩
        · simp only [List.size_toArray, List.length_append, List.length_take, List.length_drop, Array.length_toList, List.length_map, List.length_replicate]
          omega
        · have ht : cur.toList.take n = xs.map u8v := by
            have := htake
            rwa [show n * 1 = n by omega] at this
          rw [ht, List.map_append]
          exact List.take_left' (by simp [hl])
    · have holds : ∀ j u, (xs.map u8v)[j]? = some u → w.cell? ((⟨g, 0, none⟩ : Addr).add j) = some u := h.cells (g := g) rfl
      have hr := Lib.run_append_grow_zeros (P := Tryd.prog) w 22 tn ty 5 i (.int .u8 0) .i64 .i64 Tryd.underlying22 htn hi hz0 (some ⟨g, 0, none⟩) n c (xs.map u8v) (run_firstCells_some w.drew i.size n ⟨g, 0, none⟩ n c (xs.map u8v) (by rw [hz1]; simp [hl]) (by simpa using holds)) k (by omega) (by rw [hz1]; decide) (by omega) (by omega) (by rw [hz2]; omega) (growslice_fits (by omega) (by rw [hz2]; omega))
      have hgr := grown c (by omega) (Value.ownBlock (.slice (some ⟨g, 0, none⟩) n c))
      exact ⟨_, _, _, hr, hgr.1, hgr.2⟩

theorem wp_append_noughts {w : World} {o : Oper} {a : Act} {K : Act → World → Prop} {Q : Exit → Act → World → Prop} {tn : TypeId} (htn : Tryd.prog.underlying tn = some (.int .i64)) {B : Nat} {A : Option Addr} {n c k : Nat} {xs : List UInt8} {s x : Operand}
    (ho : o.op = .call { callee := .builtin .append, args := #[s, x], argTypes := #[22, tn] }) (hs : a.eval s = .slice A n c) (hx : a.eval x = .int .i64 (k : Int))
    (h : Own B w A n c xs) (hm : n + k ≤ 140737488355328) (hB : B ≤ w.heap.size)
    (hK : ∀ A'' c'' w', Own B w' A'' (n + k) c'' (xs ++ List.replicate k 0) → w.grownBy w' (Value.ownBlock (.slice A n c)) → Below B w w' → K (a.put o.dst (.slice A'' (n + k) c'')) w') : o.wp Tryd.prog a w K Q := by
  obtain ⟨A'', c'', w', hrun, h2, h3⟩ := append_noughts tn o.type htn h hm hB
  unfold Oper.wp execOp
  simp only [ho, resolve, invoke, builtin, Sem.run_bind, Sem.run_pure, Result.andThen_ok, List.map_toArray, List.map_cons, List.map_nil, hs, hx, hrun]
  exact hK A'' c'' w' h2 h3 ((Below.refl B w).grown h3 hB h.ge)
theorem wpList_append_noughts {w : World} {ops : Array Oper} {rest : List Oper} {o : Oper} {a : Act} {Q : Exit → Act → World → Prop} (hgd : o.guard = none) {tn : TypeId} (htn : Tryd.prog.underlying tn = some (.int .i64)) {B : Nat} {A : Option Addr} {n c k : Nat} {xs : List UInt8} {s x : Operand}
    (ho : o.op = .call { callee := .builtin .append, args := #[s, x], argTypes := #[22, tn] }) (hs : a.eval s = .slice A n c) (hx : a.eval x = .int .i64 (k : Int))
    (h : Own B w A n c xs) (hm : n + k ≤ 140737488355328) (hB : B ≤ w.heap.size)
    (hK : ∀ A'' c'' w', Own B w' A'' (n + k) c'' (xs ++ List.replicate k 0) → w.grownBy w' (Value.ownBlock (.slice A n c)) → Below B w w' → wpList Tryd.prog ops Q rest (a.put o.dst (.slice A'' (n + k) c'')) w') : wpList Tryd.prog ops Q (o :: rest) a w :=
  wpList_plain hgd fun _ hK' => wp_append_noughts htn ho hs hx h hm hB fun A'' c'' w' h2 h3 h4 => hK' _ _ (hK A'' c'' w' h2 h3 h4)
end Go.Proofs.YtmnohmhhmaeljaaDoor
end

section
/-
  The document's 'filled'.
-/
namespace Go.Proofs.YtmnohmhhmaeljaaDoor
open Go.ChangeShapes Go.WideShapes Go.ChangeAt Go.RowKit Go.Deep

set_option maxHeartbeats 1000000 in
theorem refFilled_calls {A : Option Addr} {n c : Nat} {xs : List UInt8} {w : World} (h : Bs w A n c xs) (hn : n ≤ 64) :
    Calls Tryd.prog 135 #[.slice A n c] w fun e w' => ∃ A' c', e = .returned (.slice A' 64 c') ∧ Own w.heap.size w' A' 64 c' (padL xs) ∧ Ext w w' := by
  have hl := h.len
  have h2 := h.cap
  have h1 := h.le
  obtain ⟨k, hk⟩ : ∃ k, k = 64 - n := ⟨_, rfl⟩
  have ik : (64 : Int) - (n : Int) = (k : Int) := by omega
  have hp : padL xs = xs ++ List.replicate k 0 := by unfold padL; rw [hl, hk]
  rw [hp]
  clear hp
  have h64 : n + k = 64 := by omega
  replace h := Lib.hid h
  clear hk hl
  go_enter Tryd.func135, Tryd.ntmps135
  go_wp2_with (first
    | (at_builtin; (with_reducible refine wpList_append_bs rfl (B := w.heap.size) (s := .tmp 3) (x := .tmp 4) rfl rfl rfl (Own.empty w _ (Nat.le_refl _)) (h.out.ext ((Ext.refl _).alloc _)) (by omega) (by simp) ?_); intro A1 c1 w1 o1 g1 b1; simp only [Nat.zero_add, List.nil_append] at o1 ⊢; replace o1 := Lib.hid o1; have e1 : Hid (Ext w w1) := Below.trans ((Ext.refl w).alloc _) b1; clear g1 b1; go_frame)
    | (at_builtin; (with_reducible refine wpList_append_noughts rfl Tryd.underlying3 (B := w.heap.size) (k := k) (s := .tmp 5) (x := .tmp 8) rfl rfl rfl o1.out (by omega) e1.out.size ?_); intro A2 c2 w2 o2 g2 b2; rw [h64] at o2 ⊢; replace o2 := Lib.hid o2; replace e1 : Hid (Ext w w2) := Below.trans e1.out b2; clear g2 b2; go_frame))
  go_ret
  exact ⟨A2, c2, rfl, o2.out, e1.out⟩
end Go.Proofs.YtmnohmhhmaeljaaDoor
end

section
/-
  The document's tag in closed form is that of package blake. No conditions.
-/
namespace Go.Proofs.YtmnohmhhmaeljaaDoor

/-- The words behind the first i blocks. -/
def refAt (hs : List Nat) (xs : List UInt8) : Nat → List Nat
  | 0 => hs
  | i + 1 => compL (refAt hs xs i) ((xs.drop (64 * i)).take 64) (64 * (i + 1)) false
def preL (ks : List UInt8) : List UInt8 := if ks.length = 0 then [] else padL ks
def refMacL (n : Nat) (xs : List UInt8) : List UInt8 := bytesL (compL (refAt (h0L n) xs (fullB xs.length)) (padL (xs.drop (64 * fullB xs.length))) xs.length true)
theorem refAt_len {hs : List Nat} {xs : List UInt8} (h : hs.length = 8) : ∀ i, (refAt hs xs i).length = 8
  | 0 => h
  | i + 1 => compL_len _ _ _ _
theorem refAt_lt {hs : List Nat} {xs : List UInt8} (h : Lt32 hs) : ∀ i, 64 * i < 18446744073709551616 → Lt32 (refAt hs xs i)
  | 0, _ => h
  | i + 1, hi => (refAt_lt h i (by omega)).comp (by omega) _
theorem padL_full {xs : List UInt8} (h : xs.length = 64) : padL xs = xs := by unfold padL; rw [h]; simp
theorem refAt_hAt {hs : List Nat} {xs : List UInt8} : ∀ i, 64 * i ≤ xs.length → refAt hs xs i = hAt hs 0 xs i
  | 0, _ => rfl
  | i + 1, hi => by
    rw [refAt, hAt, refAt_hAt i (by omega), padL_full (by simp; omega), Nat.zero_add]
theorem refAt_two {hs : List Nat} {ps xs : List UInt8} (hp : ps.length = 64) : ∀ i, 64 * i ≤ xs.length → refAt hs (ps ++ xs) (i + 1) = hAt (compL hs ps 64 false) 64 xs i
  | 0, _ => by
    rw [refAt, refAt, hAt, Nat.mul_zero, List.drop_zero, List.take_left' hp]
  | i + 1, hi => by
    rw [refAt, refAt_two hp i (by omega), hAt, padL_full (by simp; omega)]
    congr 1
    · rw [List.drop_append, List.drop_of_length_le (by omega), List.nil_append, hp, show 64 * (i + 1) - 64 = 64 * i by omega]
    · omega
theorem ref_mac (ks bs : List UInt8) (hk : ks.length ≤ 64) : macL ks bs = refMacL ks.length (preL ks ++ bs) := by
  unfold macL preL refMacL
  by_cases h : ks.length = 0
  · simp only [if_pos h, List.nil_append]
    unfold macTail
    rw [h, refAt_hAt _ (by unfold fullB; omega), Nat.zero_add]
  · simp only [if_neg h]
    have hp := padL_len hk
    by_cases hb : bs.length = 0
    · obtain rfl := List.eq_nil_of_length_eq_zero hb
      simp only [List.length_nil, if_true, List.append_nil, hp, fullB, show (64 - 1) / 64 = 0 from rfl, Nat.mul_zero, List.drop_zero, refAt, padL_full hp]
    · rw [if_neg hb]
      have hF : fullB (padL ks ++ bs).length = fullB bs.length + 1 := by rw [List.length_append, hp]; unfold fullB; omega
      have hd : (padL ks ++ bs).drop (64 * (fullB bs.length + 1)) = bs.drop (64 * fullB bs.length) := by
        rw [List.drop_append, List.drop_of_length_le (by omega), List.nil_append, hp, show 64 * (fullB bs.length + 1) - 64 = 64 * fullB bs.length by omega]
      rw [hF, hd, refAt_two hp _ (by unfold fullB; omega), List.length_append, hp]
      rfl
end Go.Proofs.YtmnohmhhmaeljaaDoor
end

section
/-
  A bit of a key is turned.
-/
namespace Go.Proofs.YtmnohmhhmaeljaaDoor
open Go.ChangeShapes Go.WideShapes Go.ChangeAt Go.RowKit Go.Deep

theorem UInt8.xor_ne {x : Nat} {k : Nat} (hk : k < 8) (hx : x < 256) : x ^^^ 2 ^ k ≠ x := by
  intro h
  have : x ^^^ (x ^^^ 2 ^ k) = x ^^^ x := by rw [h]
  rw [← Nat.xor_assoc, Nat.xor_self, Nat.zero_xor] at this
  have := Nat.pos_of_ne_zero (n := 2 ^ k) (by have := Nat.two_pow_pos k; omega)
  omega

/-- A bit of a byte is turned. -/
def flip (xs : List UInt8) (j k : Nat) : List UInt8 := xs.set j (UInt8.ofNat (bt xs j ^^^ 2 ^ k))
theorem flip_len (xs : List UInt8) (j k : Nat) : (flip xs j k).length = xs.length := by simp [flip]
theorem flip_lt {xs : List UInt8} {j k : Nat} (hk : k < 8) : bt xs j ^^^ 2 ^ k < 256 := Nat.xor_lt_two_pow (n := 8) (bt_lt _ _) (Nat.pow_lt_pow_right (by omega) hk)
theorem bt_set {xs : List UInt8} {j i x : Nat} (hj : j < xs.length) (hx : x < 256) : bt (xs.set j (UInt8.ofNat x)) i = if i = j then x else bt xs i := by
  unfold bt
  by_cases h : i = j
  · subst h
    simp [List.getD, hj]
    omega
  · simp [List.getD, h, List.getElem?_set_ne (Ne.symm h)]
theorem flip_ne {xs : List UInt8} {j k : Nat} (hj : j < xs.length) (hk : k < 8) : ¬ xs = flip xs j k := fun h => by
  have h1 : bt xs j = bt (flip xs j k) j := by rw [← h]
  unfold flip at h1
  rw [bt_set hj (flip_lt hk), if_pos rfl] at h1
  exact UInt8.xor_ne hk (bt_lt _ _) h1.symm
theorem Ky.flip {w : World} {g j k : Nat} {xs : List UInt8} (h : Ky w g xs) (hj : j < 32) (hk : k < 8) : Ky (w.setCell ⟨g, j, none⟩ (.int .u8 ((bt xs j ^^^ 2 ^ k : Nat) : Int))) g (flip xs j k) := by
  refine ⟨?_, by rw [flip_len]; exact h.2⟩
  rw [setCell_eq_setRow w g j _ _ (0, 0) _ h.1, setRow_heap w g _ _ _ _ h.1]
  congr 2
  have hl := h.2
  apply Array.ext'
  rw [Array.toList_setIfInBounds]
  apply List.ext_getElem?
  intro i
  simp only [List.getElem?_set, cellsOf_len]
  by_cases hi : i < 32
  · rw [cellsOf_get (xs := Go.Proofs.YtmnohmhhmaeljaaDoor.flip xs j k) (by rw [flip_len]; omega)]
    unfold Go.Proofs.YtmnohmhhmaeljaaDoor.flip
    rw [bt_set (by omega) (flip_lt hk)]
    by_cases e : j = i
    · subst e; simp [show j < xs.length by omega]
    · rw [if_neg e, if_neg (Ne.symm e)]
      have := cellsOf_get (xs := xs) (j := i) (by omega)
      simpa using this
  · have h1 : (cellsOf xs)[i]? = none := List.getElem?_eq_none (by rw [cellsOf_len]; omega)
    have h2 : (cellsOf (Go.Proofs.YtmnohmhhmaeljaaDoor.flip xs j k))[i]? = none := List.getElem?_eq_none (by rw [cellsOf_len, flip_len]; omega)
    rw [if_neg (by omega)]
    simp only [h2]
    simpa using h1
theorem flip_int {xs : List UInt8} {j k : Nat} (hk : k < 8) : bits .xor .u8 (bt xs j : Int) (IntKind.u8.wrap (2 ^ k)) = ((bt xs j ^^^ 2 ^ k : Nat) : Int) := by
  have h1 : 2 ^ k < 256 := Nat.pow_lt_pow_right (a := 2) (by omega) hk
  have h2 : IntKind.u8.wrap (2 ^ k) = ((2 ^ k : Nat) : Int) := by
    rw [IntKind.wrap_u8, show ((2 : Int) ^ k) = ((2 ^ k : Nat) : Int) by simp]
    generalize 2 ^ k = x at *
    omega
  rw [h2, u8_xor_nat _ _ (bt_lt _ _) h1]
end Go.Proofs.YtmnohmhhmaeljaaDoor
end
