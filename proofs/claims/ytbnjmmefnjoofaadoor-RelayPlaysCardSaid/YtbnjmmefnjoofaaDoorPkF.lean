import Derived.Test.YtbnjmmefnjoofaaDoorOwn
import Derived.Test.YtbnjmmefnjoofaaDoorKeyEq
import Derived.Lib.AppendStr
import Derived.Lib.AppendZerosOnto
import Derived.Test.YtbnjmmefnjoofaaDoorPkM
import Derived.Test.YtbnjmmefnjoofaaDoorPkL
import Derived.Test.YtbnjmmefnjoofaaDoorRefInto
import Derived.Test.YtbnjmmefnjoofaaDoorPkI
import Derived.Test.YtbnjmmefnjoofaaDoorPkG
import Derived.Test.YtbnjmmefnjoofaaDoorRy3
section
/-
  append of a string's bytes, and of noughts, onto a row of the call's own.
-/
namespace Go.Proofs.YtbnjmmefnjoofaaDoor
open Go.ChangeShapes Go.WideShapes Go.ChangeAt Go.RowKit Go.Deep

/-- What a slice that owns a row looks like. -/
theorem own_form {w' : World} {B k : Nat} {v' : Value} {xs : List UInt8} (ho : w'.ownsRow B 5 1 v' k (xs.map u8v)) : ∃ A'' c'', v' = .slice A'' k c'' ∧ Own B w' A'' k c'' xs := by
  rcases ho.2 with ⟨hv, hn⟩ | ⟨g, cap, cur, hv, _⟩
  · refine ⟨none, 0, by rw [hv, hn], ?_⟩
    rw [hv] at ho
    unfold Own
    rw [show (Value.slice none k 0) = .slice none 0 0 by rw [hn]]
    exact ho
  · refine ⟨_, _, hv, ?_⟩
    rw [hv] at ho
    exact ho

theorem append_str {w : World} {B : Nat} {A : Option Addr} {n c : Nat} {xs ys : List UInt8} (ty : TypeId) (h : Own B w A n c xs) (hm : n + ys.length ≤ 140737488355328) (hB : B ≤ w.heap.size) :
    ∃ A'' c'' w', (Builtin.append_ #[35, 9] ty #[.slice A n c, .string (strL ys)]).run Tryd.prog w = .ok (.slice A'' (n + ys.length) c'') w' ∧ Own B w' A'' (n + ys.length) c'' (xs ++ ys) ∧ w.grownBy w' (Value.ownBlock (.slice A n c)) := by
  obtain ⟨i, hi, hz0, hz1, hz2⟩ := info_parts info8
  obtain ⟨v', w', hr, ho, hg, _⟩ := Lib.run_append_own_string (P := Tryd.prog) w B 35 9 ty 5 i Tryd.underlying35 Tryd.underlying9 hi hz0 hz1 hz2 (.slice A n c) n (xs.map u8v) h (strL ys) (by rw [strL_size]; unfold maxLen; omega) (by rw [strL_size]; exact hm) hB
  rw [strL_size] at ho
  have e : xs.map u8v ++ Lib.strCells (strL ys) = (xs ++ ys).map u8v := by
    rw [List.map_append]
    congr 1
  rw [e] at ho
  obtain ⟨A'', c'', rfl, ho'⟩ := own_form ho
  exact ⟨A'', c'', w', hr, ho', hg⟩

theorem wp_append_str {w : World} {o : Oper} {a : Act} {K : Act → World → Prop} {Q : Exit → Act → World → Prop} {B : Nat} {A : Option Addr} {n c : Nat} {xs ys : List UInt8} {s x : Operand}
    (ho : o.op = .call { callee := .builtin .append, args := #[s, x], argTypes := #[35, 9] }) (hs : a.eval s = .slice A n c) (hx : a.eval x = .string (strL ys))
    (h : Own B w A n c xs) (hm : n + ys.length ≤ 140737488355328) (hB : B ≤ w.heap.size)
    (hK : ∀ A'' c'' w', Own B w' A'' (n + ys.length) c'' (xs ++ ys) → w.grownBy w' (Value.ownBlock (.slice A n c)) → Below B w w' → K (a.put o.dst (.slice A'' (n + ys.length) c'')) w') : o.wp Tryd.prog a w K Q := by
  obtain ⟨A'', c'', w', hrun, h2, h3⟩ := append_str o.type h hm hB
  unfold Oper.wp execOp
  simp only [ho, resolve, invoke, builtin, Sem.run_bind, Sem.run_pure, Result.andThen_ok, List.map_toArray, List.map_cons, List.map_nil, hs, hx, hrun]
  exact hK A'' c'' w' h2 h3 ((Below.refl B w).grown h3 hB h.ge)

theorem wpList_append_str {w : World} {ops : Array Oper} {rest : List Oper} {o : Oper} {a : Act} {Q : Exit → Act → World → Prop} (hgd : o.guard = none) {B : Nat} {A : Option Addr} {n c : Nat} {xs ys : List UInt8} {s x : Operand}
    (ho : o.op = .call { callee := .builtin .append, args := #[s, x], argTypes := #[35, 9] }) (hs : a.eval s = .slice A n c) (hx : a.eval x = .string (strL ys))
    (h : Own B w A n c xs) (hm : n + ys.length ≤ 140737488355328) (hB : B ≤ w.heap.size)
    (hK : ∀ A'' c'' w', Own B w' A'' (n + ys.length) c'' (xs ++ ys) → w.grownBy w' (Value.ownBlock (.slice A n c)) → Below B w w' → wpList Tryd.prog ops Q rest (a.put o.dst (.slice A'' (n + ys.length) c'')) w') : wpList Tryd.prog ops Q (o :: rest) a w :=
  wpList_plain hgd fun _ hK' => wp_append_str ho hs hx h hm hB fun A'' c'' w' h2 h3 h4 => hK' _ _ (hK A'' c'' w' h2 h3 h4)

/-- One byte in a block of its own. -/
theorem Bs.one (w : World) (t : TypeId) (fr : Nat × Nat) (x : UInt8) : Bs (w.alloc (.cells #[.int .u8 (x.toNat : Int)] t fr)) (some ⟨w.heap.size, 0, none⟩) 1 1 [x] :=
  Bs.of_list rfl (heap_alloc_new _ _) ⟨rfl, by omega⟩
end Go.Proofs.YtbnjmmefnjoofaaDoor
end

section
/-
  append of so many noughts onto a row of the call's own.
-/
namespace Go.Proofs.YtbnjmmefnjoofaaDoor
open Go.ChangeShapes Go.WideShapes Go.ChangeAt Go.RowKit Go.Deep
set_option maxRecDepth 100000

theorem zeroCells_u8 (k : Nat) : Builtin.zeroCells (Value.int .u8 0).cells k = ((List.replicate k (0 : UInt8)).map u8v).toArray := by
  apply Array.ext'
  have h0 : (Value.int .u8 0).cells = #[Value.int .u8 0] := rfl
  simp [Builtin.zeroCells, h0, u8v]
  apply List.ext_getElem
  · simp
  · intro i h1 h2
    simp [Nat.mod_one]

theorem append_noughts {w : World} {B : Nat} {A : Option Addr} {n c k : Nat} {xs : List UInt8} (tn ty : TypeId) (htn : Tryd.prog.underlying tn = some (.int .i64)) (h : Own B w A n c xs) (hm : n + k ≤ 140737488355328) (hB : B ≤ w.heap.size) :
    ∃ A'' c'' w', (Builtin.append_ #[35, tn] ty #[.slice A n c, .int .i64 (k : Int)]).run Tryd.prog w = .ok (.slice A'' (n + k) c'') w' ∧ Own B w' A'' (n + k) c'' (xs ++ List.replicate k 0) ∧ w.grownBy w' (Value.ownBlock (.slice A n c)) := by
  obtain ⟨i, hi, hz0, hz1, hz2⟩ := info_parts info8
  have hl := h.len
  have hw : IntKind.i64.wrap (k : Int) = k := by rw [IntKind.wrap_i64]; omega
  have hneg : ¬ ((k : Int) < 0) := by omega
  have h48i : ¬ (281474976710656 < (k : Int) * (i.bytes : Int)) := by rw [hz2]; omega
  have grown : ∀ (old : Nat), old < n + k → ∀ (row : Option Nat),
      (w.drew.alloc (.cells ((xs.map u8v).toArray ++ Builtin.zeroCells (Value.int .u8 0).cells k ++ Builtin.zeroCells (Value.int .u8 0).cells (grownCap w (n + k) old 5 - (n + k))) 5)).ownsRow B 5 1
        (.slice (some ⟨w.heap.size, 0, none⟩) (n + k) (grownCap w (n + k) old 5)) (n + k) ((xs ++ List.replicate k 0).map u8v) ∧
      w.grownBy (w.drew.alloc (.cells ((xs.map u8v).toArray ++ Builtin.zeroCells (Value.int .u8 0).cells k ++ Builtin.zeroCells (Value.int .u8 0).cells (grownCap w (n + k) old 5 - (n + k))) 5)) row := by
    intro old ho row
    have hge := grownCap_ge w (n + k) old 5
    have hcm : grownCap w (n + k) old 5 ≤ maxLen := grownCap_le_maxLen w (n + k) old 5 (by unfold maxLen; omega)
    refine ⟨⟨by simp [hl], .inr ⟨w.heap.size, _, _, rfl, hB, heap_alloc_new w.drew _, hge, hcm, ?_, ?_⟩⟩, ⟨rfl, rfl, rfl, by simp, fun j hj _ => heap_alloc_old w.drew _ hj⟩⟩
    · have hz1 : (Value.int IntKind.u8 0).cells.size = 1 := rfl
      simp only [Array.size_append, List.size_toArray, size_zeroCells, hz1, List.length_map, hl]
      omega
    · rw [zeroCells_u8 k]
      simp only [Array.toList_append, List.append_assoc, List.map_append]
      rw [← List.append_assoc, ← List.map_append]
      exact List.take_left' (by simp [hl])
  by_cases hk : k = 0
  · subst hk
    have hw0 : IntKind.i64.wrap 0 = 0 := rfl
    refine ⟨A, c, w, ?_, by simpa using h, ⟨rfl, rfl, rfl, Nat.le_refl _, fun _ _ _ => rfl⟩⟩
    rcases h.2 with ⟨hv, hn⟩ | ⟨g, cap, cur, hv, _, _, hnc, _⟩
    · rw [hv]
      subst hn
      injection hv with q1 _ q3
      subst q1 q3
      simp [Builtin.append_, run_underlying Tryd.underlying35, run_underlying htn, sizeOf, typeInfo, hi, asInt, asIntOf, hw0]
    · rw [hv]
      injection hv with q1 _ q3
      subst q1 q3
      simp [Builtin.append_, run_underlying Tryd.underlying35, run_underlying htn, sizeOf, typeInfo, hi, asInt, asIntOf, hw0, hnc, storeCells]
  rcases h.2 with ⟨hv, hn⟩ | ⟨g, cap, cur, hv, hbg, hg, hnc, hcm, hcs, htake⟩
  · injection hv with q1 q2 q3
    subst q1 q3
    have hx : xs = [] := List.eq_nil_of_length_eq_zero (by omega)
    subst hx
    have hn0 : n = 0 := hn
    subst hn0
    have hr := Lib.run_append_grow_zeros (P := Tryd.prog) w 35 tn ty 5 i (.int .u8 0) .i64 .i64 Tryd.underlying35 htn hi hz0 none 0 0 [] (run_firstCells_none _ _ _ _ _) k (by omega) (by rw [hz1]; decide) (by omega) (by omega) (by rw [hz2]; omega) (growslice_fits (by omega) (by rw [hz2]; omega))
    have hgr := grown 0 (by omega) (Value.ownBlock (.slice none 0 0))
    exact ⟨_, _, _, hr, hgr.1, hgr.2⟩
  · injection hv with q1 q2 q3
    subst q1 q3
    by_cases hroom : n + k ≤ c
    · have hfit : n * 1 + ((List.replicate k (0 : UInt8)).map u8v).length ≤ cur.size := by rw [hcs]; simp; omega
      have hst := run_storeCells_at Tryd.prog g (n * 1) 5 ((List.replicate k (0 : UInt8)).map u8v) 0 cur w hg (by simpa using hfit) (fun u hu => by
        obtain ⟨x, _, rfl⟩ := List.mem_map.1 hu
        rfl)
      simp only [Nat.add_zero, Nat.mul_one] at hst
      have hzc := zeroCells_u8 k
      have hw' : IntKind.i64.wrap (k : Int) = k := hw
      simp only [List.map_replicate, List.length_replicate] at hst hzc
      refine ⟨some ⟨g, 0, none⟩, c, w.setRow g (cur.toList.take n ++ (List.replicate k (0 : UInt8)).map u8v ++ cur.toList.drop (n + ((List.replicate k (0 : UInt8)).map u8v).length)).toArray, ?_, ?_, ⟨rfl, rfl, rfl, by simp, fun j _ hj => setRow_other w g j _ (fun e => hj (by simp [Value.ownBlock, e]))⟩⟩
      · have hkz : ¬ (k * i.size = 0) := by rw [hz1]; omega
        simp [Builtin.append_, run_underlying Tryd.underlying35, run_underlying htn, sizeOf, typeInfo, zeroValue, hi, hz0, asInt, asIntOf, hw, hneg, h48i, hroom, hkz, hk, hz1, hzc, Addr.add_lit, hst]
      · refine ⟨by simp [hl], .inr ⟨g, c, _, rfl, hbg, setRow_heap w g cur _ 5 _ hg, hroom, hcm, ?_, ?_⟩⟩
        · simp only [List.size_toArray, List.length_append, List.length_take, List.length_drop, Array.length_toList, List.length_map, List.length_replicate]
          omega
        · have ht : cur.toList.take n = xs.map u8v := by
            have := htake
            rwa [show n * 1 = n by omega] at this
          rw [ht, List.map_append]
          exact List.take_left' (by simp [hl])
    · have holds : ∀ j u, (xs.map u8v)[j]? = some u → w.cell? ((⟨g, 0, none⟩ : Addr).add j) = some u := h.cells (g := g) rfl
      have hr := Lib.run_append_grow_zeros (P := Tryd.prog) w 35 tn ty 5 i (.int .u8 0) .i64 .i64 Tryd.underlying35 htn hi hz0 (some ⟨g, 0, none⟩) n c (xs.map u8v) (run_firstCells_some w.drew i.size n ⟨g, 0, none⟩ n c (xs.map u8v) (by rw [hz1]; simp [hl]) (by simpa using holds)) k (by omega) (by rw [hz1]; decide) (by omega) (by omega) (by rw [hz2]; omega) (growslice_fits (by omega) (by rw [hz2]; omega))
      have hgr := grown c (by omega) (Value.ownBlock (.slice (some ⟨g, 0, none⟩) n c))
      exact ⟨_, _, _, hr, hgr.1, hgr.2⟩

theorem wp_append_noughts {w : World} {o : Oper} {a : Act} {K : Act → World → Prop} {Q : Exit → Act → World → Prop} {tn : TypeId} (htn : Tryd.prog.underlying tn = some (.int .i64)) {B : Nat} {A : Option Addr} {n c k : Nat} {xs : List UInt8} {s x : Operand}
    (ho : o.op = .call { callee := .builtin .append, args := #[s, x], argTypes := #[35, tn] }) (hs : a.eval s = .slice A n c) (hx : a.eval x = .int .i64 (k : Int))
    (h : Own B w A n c xs) (hm : n + k ≤ 140737488355328) (hB : B ≤ w.heap.size)
    (hK : ∀ A'' c'' w', Own B w' A'' (n + k) c'' (xs ++ List.replicate k 0) → w.grownBy w' (Value.ownBlock (.slice A n c)) → Below B w w' → K (a.put o.dst (.slice A'' (n + k) c'')) w') : o.wp Tryd.prog a w K Q := by
  obtain ⟨A'', c'', w', hrun, h2, h3⟩ := append_noughts tn o.type htn h hm hB
  unfold Oper.wp execOp
  simp only [ho, resolve, invoke, builtin, Sem.run_bind, Sem.run_pure, Result.andThen_ok, List.map_toArray, List.map_cons, List.map_nil, hs, hx, hrun]
  exact hK A'' c'' w' h2 h3 ((Below.refl B w).grown h3 hB h.ge)
theorem wpList_append_noughts {w : World} {ops : Array Oper} {rest : List Oper} {o : Oper} {a : Act} {Q : Exit → Act → World → Prop} (hgd : o.guard = none) {tn : TypeId} (htn : Tryd.prog.underlying tn = some (.int .i64)) {B : Nat} {A : Option Addr} {n c k : Nat} {xs : List UInt8} {s x : Operand}
    (ho : o.op = .call { callee := .builtin .append, args := #[s, x], argTypes := #[35, tn] }) (hs : a.eval s = .slice A n c) (hx : a.eval x = .int .i64 (k : Int))
    (h : Own B w A n c xs) (hm : n + k ≤ 140737488355328) (hB : B ≤ w.heap.size)
    (hK : ∀ A'' c'' w', Own B w' A'' (n + k) c'' (xs ++ List.replicate k 0) → w.grownBy w' (Value.ownBlock (.slice A n c)) → Below B w w' → wpList Tryd.prog ops Q rest (a.put o.dst (.slice A'' (n + k) c'')) w') : wpList Tryd.prog ops Q (o :: rest) a w :=
  wpList_plain hgd fun _ hK' => wp_append_noughts htn ho hs hx h hm hB fun A'' c'' w' h2 h3 h4 => hK' _ _ (hK A'' c'' w' h2 h3 h4)
end Go.Proofs.YtbnjmmefnjoofaaDoor
end

section
/-
  The document's 'filled'.
-/
namespace Go.Proofs.YtbnjmmefnjoofaaDoor
open Go.ChangeShapes Go.WideShapes Go.ChangeAt Go.RowKit Go.Deep

set_option maxHeartbeats 1000000 in
theorem refFilled_calls {A : Option Addr} {n c : Nat} {xs : List UInt8} {w : World} (h : Bs w A n c xs) (hn : n ≤ 64) :
    Calls Tryd.prog 96 #[.slice A n c] w fun e w' => ∃ A' c', e = .returned (.slice A' 64 c') ∧ Own w.heap.size w' A' 64 c' (padL xs) ∧ Ext w w' := by
  have hl := h.len
  have h2 := h.cap
  have h1 := h.le
  obtain ⟨k, hk⟩ : ∃ k, k = 64 - n := ⟨_, rfl⟩
  have ik : (64 : Int) - (n : Int) = (k : Int) := by omega
  have hp : padL xs = xs ++ List.replicate k 0 := by unfold padL; rw [hl, hk]
  rw [hp]
  clear hp
  have h64 : n + k = 64 := by omega
  replace h := Lib.hid h
  clear hk hl
  go_enter Tryd.func96, Tryd.ntmps96
  go_wp2_with (first
    | (at_builtin; (with_reducible refine wpList_append_bs rfl (B := w.heap.size) (s := .tmp 3) (x := .tmp 4) rfl rfl rfl (Own.empty w _ (Nat.le_refl _)) (h.out.ext ((Ext.refl _).alloc _)) (by omega) (by simp) ?_); intro A1 c1 w1 o1 g1 b1; simp only [Nat.zero_add, List.nil_append] at o1 ⊢; replace o1 := Lib.hid o1; have e1 : Hid (Ext w w1) := Below.trans ((Ext.refl w).alloc _) b1; clear g1 b1; go_frame)
    | (at_builtin; (with_reducible refine wpList_append_noughts rfl Tryd.underlying3 (B := w.heap.size) (k := k) (s := .tmp 5) (x := .tmp 8) rfl rfl rfl o1.out (by omega) e1.out.size ?_); intro A2 c2 w2 o2 g2 b2; rw [h64] at o2 ⊢; replace o2 := Lib.hid o2; replace e1 : Hid (Ext w w2) := Below.trans e1.out b2; clear g2 b2; go_frame))
  go_ret
  exact ⟨A2, c2, rfl, o2.out, e1.out⟩
end Go.Proofs.YtbnjmmefnjoofaaDoor
end

section
/-
  The document's tag in closed form is that of package blake. No conditions.
-/
namespace Go.Proofs.YtbnjmmefnjoofaaDoor

/-- The words behind the first i blocks. -/
def refAt (hs : List Nat) (xs : List UInt8) : Nat → List Nat
  | 0 => hs
  | i + 1 => compL (refAt hs xs i) ((xs.drop (64 * i)).take 64) (64 * (i + 1)) false
def preL (ks : List UInt8) : List UInt8 := if ks.length = 0 then [] else padL ks
def refMacL (n : Nat) (xs : List UInt8) : List UInt8 := bytesL (compL (refAt (h0L n) xs (fullB xs.length)) (padL (xs.drop (64 * fullB xs.length))) xs.length true)
theorem refAt_len {hs : List Nat} {xs : List UInt8} (h : hs.length = 8) : ∀ i, (refAt hs xs i).length = 8
  | 0 => h
  | i + 1 => compL_len _ _ _ _
theorem refAt_lt {hs : List Nat} {xs : List UInt8} (h : Lt32 hs) : ∀ i, 64 * i < 18446744073709551616 → Lt32 (refAt hs xs i)
  | 0, _ => h
  | i + 1, hi => (refAt_lt h i (by omega)).comp (by omega) _
theorem padL_full {xs : List UInt8} (h : xs.length = 64) : padL xs = xs := by unfold padL; rw [h]; simp
theorem refAt_hAt {hs : List Nat} {xs : List UInt8} : ∀ i, 64 * i ≤ xs.length → refAt hs xs i = hAt hs 0 xs i
  | 0, _ => rfl
  | i + 1, hi => by
    rw [refAt, hAt, refAt_hAt i (by omega), padL_full (by simp; omega), Nat.zero_add]
theorem refAt_two {hs : List Nat} {ps xs : List UInt8} (hp : ps.length = 64) : ∀ i, 64 * i ≤ xs.length → refAt hs (ps ++ xs) (i + 1) = hAt (compL hs ps 64 false) 64 xs i
  | 0, _ => by
    rw [refAt, refAt, hAt, Nat.mul_zero, List.drop_zero, List.take_left' hp]
  | i + 1, hi => by
    rw [refAt, refAt_two hp i (by omega), hAt, padL_full (by simp; omega)]
    congr 1
    · rw [List.drop_append, List.drop_of_length_le (by omega), List.nil_append, hp, show 64 * (i + 1) - 64 = 64 * i by omega]
    · omega
theorem ref_mac (ks bs : List UInt8) (hk : ks.length ≤ 64) : macL ks bs = refMacL ks.length (preL ks ++ bs) := by
  unfold macL preL refMacL
  by_cases h : ks.length = 0
  · simp only [if_pos h, List.nil_append]
    unfold macTail
    rw [h, refAt_hAt _ (by unfold fullB; omega), Nat.zero_add]
  · simp only [if_neg h]
    have hp := padL_len hk
    by_cases hb : bs.length = 0
    · obtain rfl := List.eq_nil_of_length_eq_zero hb
      simp only [List.length_nil, if_true, List.append_nil, hp, fullB, show (64 - 1) / 64 = 0 from rfl, Nat.mul_zero, List.drop_zero, refAt, padL_full hp]
    · rw [if_neg hb]
      have hF : fullB (padL ks ++ bs).length = fullB bs.length + 1 := by rw [List.length_append, hp]; unfold fullB; omega
      have hd : (padL ks ++ bs).drop (64 * (fullB bs.length + 1)) = bs.drop (64 * fullB bs.length) := by
        rw [List.drop_append, List.drop_of_length_le (by omega), List.nil_append, hp, show 64 * (fullB bs.length + 1) - 64 = 64 * fullB bs.length by omega]
      rw [hF, hd, refAt_two hp _ (by unfold fullB; omega), List.length_append, hp]
      rfl
end Go.Proofs.YtbnjmmefnjoofaaDoor
end

section
/-
  's[k:]' and 's[:k]' as operations of a region.
-/
namespace Go.Proofs.YtbnjmmefnjoofaaDoor
open Go.ChangeShapes Go.WideShapes Go.ChangeAt Go.RowKit Go.Deep

theorem exec_from {w : World} {o : Oper} {a : Act} {x lo : Operand} {A : Option Addr} {n c k : Nat} {kd : IntKind} (ho : o.op = .slice 35 x (some lo) none none) (hx : a.eval x = .slice A n c) (hl : a.eval lo = .int kd (k : Int)) (hk : k ≤ n) (hnc : n ≤ c) :
    (execOp a.eval o).run Tryd.prog w = .ok (.value (.slice (if c = k then A else A.map (·.add k)) (n - k) (c - k))) w := by
  obtain ⟨dst, op, ty, pos, af, gd⟩ := o
  simp only at ho
  subst ho
  obtain ⟨i, hi', hsz⟩ := Option.map_eq_some_iff.1 size8
  have q1 : (k : Int) ≤ (n : Int) := by omega
  simp only [execOp, hx, hl, Option.map, Instr.sliceAt]
  go_simp
  cases A <;> rfl
theorem exec_to {w : World} {o : Oper} {a : Act} {x hi : Operand} {A : Option Addr} {n c k : Nat} {kd : IntKind} (ho : o.op = .slice 35 x none (some hi) none) (hx : a.eval x = .slice A n c) (hl : a.eval hi = .int kd (k : Int)) (hk : k ≤ c) :
    (execOp a.eval o).run Tryd.prog w = .ok (.value (.slice A k c)) w := by
  obtain ⟨dst, op, ty, pos, af, gd⟩ := o
  simp only at ho
  subst ho
  obtain ⟨i, hi', hsz⟩ := Option.map_eq_some_iff.1 size8
  have q1 : (k : Int) ≤ (c : Int) := by omega
  have q2 : (if c = 0 then A else A.map (·.add 0)) = A := by
    split
    · rfl
    · cases A <;> simp [Addr.add]
  simp only [execOp, hx, hl, Option.map, Instr.sliceAt]
  go_simp
end Go.Proofs.YtbnjmmefnjoofaaDoor
end

section
/-
  The document's Mac (layer 2).
-/
namespace Go.Proofs.YtbnjmmefnjoofaaDoor
open Go.ChangeShapes Go.WideShapes Go.ChangeAt Go.RowKit Go.Deep

theorem Own.down {B B' : Nat} {w : World} {A : Option Addr} {n c : Nat} {xs : List UInt8} (h : Own B w A n c xs) (hB : B' ≤ B) : Own B' w A n c xs := by
  refine ⟨h.1, ?_⟩
  rcases h.2 with h | ⟨g, cap, cur, hv, hb, r⟩
  · exact .inl h
  · exact .inr ⟨g, cap, cur, hv, Nat.le_trans hB hb, r⟩
theorem Ky.setB {w : World} {g j x : Nat} {xs : List UInt8} (h : Ky w g xs) (hj : j < 32) (hx : x < 256) : Ky (w.setCell ⟨g, j, none⟩ (.int .u8 (x : Int))) g (xs.set j (UInt8.ofNat x)) := by
  refine ⟨?_, by rw [List.length_set]; exact h.2⟩
  rw [setCell_eq_setRow w g j _ _ (0, 0) _ h.1, setRow_heap w g _ _ _ _ h.1]
  congr 2
  have hl := h.2
  apply Array.ext'
  rw [Array.toList_setIfInBounds]
  apply List.ext_getElem?
  intro i
  simp only [List.getElem?_set, cellsOf_len]
  by_cases hi : i < 32
  · rw [cellsOf_get (xs := xs.set j (UInt8.ofNat x)) (by rw [List.length_set]; omega), bt_set (by omega) hx]
    by_cases e : j = i
    · subst e; simp [show j < xs.length by omega]
    · rw [if_neg e, if_neg (Ne.symm e)]
      have := cellsOf_get (xs := xs) (j := i) (by omega)
      simpa using this
  · have h1 : (cellsOf xs)[i]? = none := List.getElem?_eq_none (by rw [cellsOf_len]; omega)
    have h2 : (cellsOf (xs.set j (UInt8.ofNat x)))[i]? = none := List.getElem?_eq_none (by rw [cellsOf_len, List.length_set]; omega)
    rw [if_neg (by omega)]
    simp only [h2]
    simpa using h1

set_option maxRecDepth 100000 in
set_option maxHeartbeats 1000000 in
theorem refMac_long {A A' : Option Addr} {n c m d : Nat} {ks bs : List UInt8} {w : World} (h : Bs w A n c ks) (h' : Bs w A' m d bs) (hk : 32 < n) :
    Calls Tryd.prog 81 #[.slice A n c, .slice A' m d] w fun e w' => e = .returned (.tuple #[.agg (cellsOf (List.replicate 32 0)).toArray, .int .i64 1]) ∧ Ext w w' := by
  have h1 := h.le
  have h2 := h.cap
  have hk' : decide ((32 : Int) < (n : Int)) = true := decide_eq_true (by omega)
  have hb := zeros32_built
  have hs := zeros32_size
  have ho := zeros32_one
  have hc := Lib.hid zeros32_cells
  have hz : Hid (∀ w : World, (w.alloc (Obj.cells zeros32 23)).heap[w.heap.size]? = some (Obj.cells zeros32 23)) := fun w => heap_alloc_new _ _
  have he : Hid (∀ w : World, ∀ C, Ext w ((w.alloc (Obj.cells zeros32 23)).setRow w.heap.size C)) := fun w C => below_setRow ((Ext.refl w).alloc _) (Nat.le_refl _) _
  have hal : ∀ w, (zeroValue 23).run Tryd.prog w = .ok (.agg zeros32) w := fun _ => by kernel_rfl
  generalize zeros32 = Z at hb hs ho hc hz he hal
  go_enter Tryd.func81, Tryd.ntmps81
  go_wp2_with (first
    | refine wpList_build_as rfl _ _ rfl Z hb ?_
    | refine wpList_store_row rfl 23 _ _ rfl w.heap.size Z rfl rfl 23 _ (by with_reducible exact hz.out _) (by rw [hs]; rfl) rfl ho ?_)
  (try simp only [Exit.inBlock, Exit.then])
  refine bodyPost_ret (v := .tuple #[.agg Z, .int .i64 1]) ?_ rfl ?_
  · exact results_row_tmp rfl _ _ w.heap.size 23 Z (0, 0) _ _ rfl rfl (setRow_heap _ _ _ _ _ _ (hz.out _)) rfl rfl (by rw [hs]; rfl)
  · exact ⟨by rw [hc.out], he.out _ _⟩

set_option maxRecDepth 100000 in
set_option maxHeartbeats 4000000 in
theorem refMac_calls {A A' : Option Addr} {n c m d : Nat} {ks bs : List UInt8} {w : World} (h : Bs w A n c ks) (h' : Bs w A' m d bs) (hk : n ≤ 32) (hm : m ≤ 1000000) :
    Calls Tryd.prog 81 #[.slice A n c, .slice A' m d] w fun e w' => e = .returned (.tuple #[.agg (cellsOf (macL ks bs)).toArray, .int .i64 0]) ∧ Ext w w' := by
  have h1 := h.le
  have h2 := h.cap
  have h3 := h'.le
  have h4 := h'.cap
  have hkl := h.len
  have hml := h'.len
  have hk' : decide ((32 : Int) < (n : Int)) = false := decide_eq_false (by omega)
  have HR := ref_mac ks bs (by omega)
  rw [hkl] at HR
  have PL : (preL ks).length ≤ 64 := by unfold preL; split; · simp
                                        · rw [padL_len (by omega)]; omega
  have P0 : Hid (n = 0 → preL ks = []) := fun h0 => by unfold preL; rw [if_pos (by omega)]
  have P1 : Hid (0 < n → preL ks = padL ks ∧ (preL ks).length = 64) := fun h0 => by
    have e : preL ks = padL ks := by unfold preL; rw [if_neg (by omega)]
    exact ⟨e, by rw [e, padL_len (by omega)]⟩
  have RL : Hid (refMacL n (preL ks ++ bs) = bytesL (compL (refAt (h0L n) (preL ks ++ bs) (fullB (preL ks ++ bs).length)) (padL ((preL ks ++ bs).drop (64 * fullB (preL ks ++ bs).length))) (preL ks ++ bs).length true)) := rfl
  have XL : (preL ks ++ bs).length = (preL ks).length + m := by rw [List.length_append, hml]
  rw [HR]
  clear HR
  have ML : (refMacL n (preL ks ++ bs)).length = 32 := by rw [RL.out, bytesL_len, compL_len]
  generalize hRM : refMacL n (preL ks ++ bs) = RM at *
  replace hRM := Lib.hid hRM
  have HL := h0_len n
  have HB := Lib.hid (h0_lt hk)
  have HD : Hid (h0L n = initL.set 0 (wd initL 0 ^^^ (16842784 ^^^ n * 256))) := rfl
  generalize preL ks = ps at *
  generalize hps : ps.length = np at *
  replace h := Lib.hid h
  replace h' := Lib.hid h'
  replace hkl := Lib.hid hkl
  replace hml := Lib.hid hml
  replace hps := Lib.hid hps
  have hal : ∀ w, (zeroValue 23).run Tryd.prog w = .ok (.agg zeros32) w := fun _ => by kernel_rfl
  have hz32 := Lib.hid zeros32_cells
  generalize zeros32 = Z at *
  have k0 : Hid (Ky (w.alloc (Obj.cells Z 23)) w.heap.size (List.replicate 32 0)) := by
    have := Ky.boxed w (show (List.replicate 32 (0 : UInt8)).length = 32 from rfl)
    rw [hz32.out] at this
    exact this
  go_enter Tryd.func81, Tryd.ntmps81
  go_wp2_with fail
  refine refFirst_calls.mono ?_
  rintro e w1 ⟨rfl, r1, e1⟩
  rw [size_alloc] at r1
  have a1 : Arr w1 (w.heap.size + 1) initL := r1.arr (fun i _ => init_lt i)
  have E1 : Ext w w1 := ((Ext.refl w).alloc _).trans e1
  have kz := k0.out.ext e1
  obtain ⟨c0, f0, _⟩ := a1.2 0 (by decide)
  have x1 : bits .xor .u32 (wd initL 0 : Int) 16842784 = ((wd initL 0 ^^^ 16842784 : Nat) : Int) := u32_xor_nat _ 16842784 (init_lt 0) (by decide)
  have l1 : wd initL 0 ^^^ 16842784 < 4294967296 := xor_lt32 (init_lt 0) (by decide)
  have x2 : bits .xor .u32 ((wd initL 0 ^^^ 16842784 : Nat) : Int) ((n : Int) * 256) = ((wd initL 0 ^^^ 16842784 ^^^ n * 256 : Nat) : Int) := by
    rw [show (n : Int) * 256 = ((n * 256 : Nat) : Int) by omega]
    exact u32_xor_nat _ _ l1 (by omega)
  rw [Nat.xor_assoc] at x2
  generalize wd initL 0 ^^^ 16842784 = y1 at *
  generalize hy2 : wd initL 0 ^^^ (16842784 ^^^ n * 256) = y2 at *
  have l2 : y2 < 4294967296 := by rw [← hy2]; exact xor_lt32 (init_lt 0) (xor_lt32 (by decide) (by omega))
  replace hy2 := Lib.hid hy2
  replace a1 := Lib.hid a1
  replace E1 := Lib.hid E1
  replace kz := Lib.hid kz
  clear r1 e1 k0
  go_upto_if 29 with (fail)
  refine wp_gen (fun W => Ext w W ∧ Ky W w.heap.size (List.replicate 32 0) ∧ Arr W (w.heap.size + 1) (h0L n)) ⟨E1.out.setCell (show w.heap.size ≤ w.heap.size + 1 by omega) _, ⟨(Below.heap_setCell _ _ _ _ (show w.heap.size ≠ w.heap.size + 1 by omega)).trans kz.out.1, kz.out.2⟩, by rw [HD.out]; exact a1.out.set (by decide) l2⟩ ?_
  clear c0 f0 x1 x2 l1 l2 a1 E1 kz hy2
  clear w1
  rintro W ⟨E1, kz, a1⟩
  replace E1 := Lib.hid E1
  replace kz := Lib.hid kz
  replace a1 := Lib.hid a1
  have zW : w.heap.size + 1 + 1 ≤ W.heap.size := a1.out.1
  go_cut [7] (fun s7 wx => ∃ (D : Option Addr) (cc : Nat), s7 = .slice D np cc ∧ Own (w.heap.size + 1 + 1) wx D np cc ps ∧ Ext W wx)
  case first =>
    by_cases hn0 : n = 0
    · have d0 : decide (0 < n) = false := decide_eq_false (by omega)
      have d1 : decide ((0 : Int) < (n : Int)) = false := decide_eq_false (by omega)
      go_wp2_with fail
      go_meet
      obtain rfl : ps = [] := P0.out hn0
      obtain rfl : np = 0 := hps.out.symm
      exact ⟨none, 0, rfl, Own.nil _ _, Ext.refl _⟩
    · have d0 : decide (0 < n) = true := decide_eq_true (by omega)
      have d1 : decide ((0 : Int) < (n : Int)) = true := decide_eq_true (by omega)
      obtain ⟨q1, rfl⟩ := P1.out (by omega)
      subst q1
      go_wp2_with fail
      refine (refFilled_calls (h.out.ext E1.out) (by omega)).mono ?_
      rintro e w2 ⟨D, cc, rfl, o2, e2⟩
      replace o2 := Lib.hid (o2.down zW)
      replace e2 := Lib.hid e2
      go_wp2_with fail
      go_meet
      exact ⟨D, cc, rfl, o2.out, e2.out⟩
  case rest =>
    obtain ⟨D, cc, rfl, o2, e2⟩ := hcut
    have zc : w.heap.size + 1 + 1 ≤ wc.heap.size := Nat.le_trans zW e2.size
    have Ec := Lib.hid (E1.out.trans e2)
    replace kz := Lib.hid (kz.out.ext e2)
    replace a1 := Lib.hid (a1.out.ext e2)
    replace o2 := Lib.hid o2
    clear E1 e2 zW
    go_wp2_with (at_builtin; (with_reducible refine wpList_append_bs rfl (B := w.heap.size + 1 + 1) (s := .tmp 32) (x := .tmp 33) rfl rfl rfl o2.out (h'.out.ext Ec.out) (by omega) zc ?_); intro A5 c5 w5 o5 g5 b5; replace o5 := Lib.hid o5; replace b5 := Lib.hid b5; clear g5; go_frame)
    have E5 : Hid (Ext w w5) := Below.trans Ec.out (b5.out.mono (by omega))
    have K5 : Hid (Ky w5 w.heap.size (List.replicate 32 0)) := ⟨(b5.out.block _ (by omega)).trans kz.out.1, kz.out.2⟩
    have B5 := o5.out.bs
    have W5 : Hid (Ws w5 (some ⟨w.heap.size + 1, 0, none⟩) 8 (h0L n)) := ⟨HL, fun _ => ⟨_, 0, rfl, Nat.lt_of_lt_of_le a1.out.1 b5.out.size, fun j hj => by
      rw [Nat.zero_add, b5.out.cell (p := ⟨w.heap.size + 1, j, none⟩) (show w.heap.size + 1 < w.heap.size + 1 + 1 by omega)]
      exact (a1.out.2 j (by omega)).1⟩⟩
    have l5 := B5.le
    have m5 := B5.cap
    replace B5 := Lib.hid B5
    clear o2 Ec kz a1 zc o5 b5 P0 P1 h h'
    generalize hxs : ps ++ bs = xs at *
    replace hxs := Lib.hid hxs
    obtain ⟨M, hM⟩ : ∃ M, M = np + m := ⟨_, rfl⟩
    rw [← hM] at XL l5 B5 ⊢
    have hM1 : M ≤ 1000064 := by omega
    replace hM := Lib.hid hM
    replace XL := Lib.hid XL
    go_loopw [6, 8] (fun hv qv wr => ∃ (i q : Nat) (H : Option Addr) (c' : Nat), hv = .slice H 8 c' ∧ qv = .int .i64 (q : Int) ∧ q = 64 * i ∧ i ≤ fullB M ∧ Ws wr H 8 (refAt (h0L n) xs i) ∧ Ext w5 wr) (fun _ qv _ => M - (intOf qv).toNat)
    case atStart => exact ⟨0, 0, _, _, rfl, rfl, rfl, Nat.zero_le _, W5.out, Ext.refl _⟩
    case round =>
      obtain ⟨i, q, H, c', rfl, rfl, hq, hi, hw, he⟩ := hrel
      have qM : q ≤ M := by unfold fullB at hi; omega
      have LT := Lib.hid (refAt_lt (xs := xs) HB.out i (by omega))
      have BX := Lib.hid (B5.out.ext he)
      by_cases h64 : 64 < M - q
      · have hi1 : i + 1 ≤ fullB M := by unfold fullB; omega
        have INTO : Hid (∀ A3, Bs wr A3 64 (c5 - q) ((xs.take (q + 64)).drop q) → Calls Tryd.prog 97 #[.slice H 8 c', .slice A3 64 (c5 - q), .int .i64 ((q : Int) + 64), .bool false] wr (RetWs (refAt (h0L n) xs (i + 1)) wr)) := fun A3 b => by
          have h9 := refInto_calls (c := c') (t := q + 64) (last := false) hw b (by omega) LT.out
          rw [show ((q + 64 : Nat) : Int) = (q : Int) + 64 by omega, List.drop_take, show q + 64 - q = 64 by omega, hq, show 64 * i + 64 = 64 * (i + 1) by omega] at h9
          rw [hq]
          exact h9
        have RN := refAt_len (xs := xs) HL (i + 1)
        have q2 : q + 64 - q = 64 := by omega
        have qm : (64 : Int) < (M : Int) - (q : Int) := by omega
        replace he := Lib.hid he
        clear hw LT
        replace hq := Lib.hid hq
        go_wp2_with ((with_reducible refine wpList_cut2 rfl (x := .tmp 41) (lo := .tmp 42) (hi := .tmp 44) (k := q) (h := q + 64) rfl rfl rfl rfl (by omega) (by omega) (by omega) l5 ?_); intro A3 h3; replace h3 := Lib.hid h3; rw [q2] at h3 ⊢; go_frame)
        refine (INTO.out A3 (h3.out _ _ BX.out)).mono ?_
        rintro e w6 ⟨H6, c6, rfl, hw6, e6⟩
        rw [RN] at hw6 ⊢
        replace hw6 := Lib.hid hw6
        replace e6 := Lib.hid e6
        clear INTO h3 q2
        go_wp2_with fail
        refine ⟨⟨i + 1, q + 64, H6, c6, rfl, by go_num, by have := hq.out; omega, hi1, hw6.out, he.out.trans e6.out⟩, by simp [intOf]; omega⟩
      · have hif : i = fullB M := by unfold fullB at hi ⊢; omega
        have FILL := Lib.hid (fun A3 (b : Bs wr A3 (M - q) (c5 - q) (xs.drop q)) => refFilled_calls b (by omega))
        have INTO : Hid (∀ (W : World) A3 c3, Ext wr W → Bs W A3 64 c3 (padL (xs.drop q)) → Calls Tryd.prog 97 #[.slice H 8 c', .slice A3 64 c3, .int .i64 (M : Int), .bool true] W (RetWs (compL (refAt (h0L n) xs i) (padL (xs.drop q)) M true) W)) := fun W A3 c3 e b => refInto_calls (t := M) (last := true) (hw.ext e) b (by omega) LT.out
        have RQ : Hid (RM = bytesL (compL (refAt (h0L n) xs i) (padL (xs.drop q)) M true)) := by rw [RL.out, XL.out, ← hif, hq]; rfl
        have RN := compL_len (refAt (h0L n) xs i) (padL (xs.drop q)) M true
        have RT : Hid (Lt32 (compL (refAt (h0L n) xs i) (padL (xs.drop q)) M true)) := LT.out.comp (by omega) true
        generalize compL (refAt (h0L n) xs i) (padL (xs.drop q)) M true = V at *
        have qm : ¬ (64 : Int) < (M : Int) - (q : Int) := by omega
        replace he := Lib.hid he
        clear hw LT RL W5 hif
        replace hq := Lib.hid hq
        go_wp2_with ((with_reducible refine wpList_cut rfl (x := .tmp 52) (lo := .tmp 53) (k := q) rfl rfl rfl rfl qM l5 ?_); intro A3 h3; replace h3 := Lib.hid h3; go_frame)
        refine (FILL.out A3 (h3.out _ _ BX.out)).mono ?_
        rintro e w6 ⟨A6, c6, rfl, o6, e6⟩
        replace o6 := Lib.hid o6.bs
        replace e6 := Lib.hid e6
        clear FILL h3 BX
        go_wp2_with fail
        refine (INTO.out _ _ _ e6.out o6.out).mono ?_
        rintro e w7 ⟨H7, c7, rfl, hw7, e7⟩
        rw [RN] at hw7 ⊢
        have E7 : Hid (Ext w w7) := E5.out.trans (he.out.trans (e6.out.trans e7))
        have K7 : Hid (Ky w7 w.heap.size (List.replicate 32 0)) := K5.out.ext (he.out.trans (e6.out.trans e7))
        obtain ⟨gb, goff, rfl, hgb, hgc⟩ := hw7.2 (by omega)
        have CV := Lib.hid (fun w' (e : Ext w7 w') j (hj : j < 8) => (e.cell hgb).trans (hgc j hj))
        clear INTO o6 e6 e7 he hw7 hgc B5 E5 K5
        have kn : Hid (Ky (w7.alloc (Obj.cells Z 23)) w7.heap.size (List.replicate 32 0)) := by
          have := Ky.boxed w7 (show (List.replicate 32 (0 : UInt8)).length = 32 from rfl)
          rw [hz32.out] at this
          exact this
        have z7 : w.heap.size < w7.heap.size := heap_lt K7.out.1
        generalize hzs : List.replicate 32 (0 : UInt8) = zs at *
        have zl : zs.length = 32 := by rw [← hzs]; rfl
        clear hzs
        go_wp2_with fail
        go_loopw [10] (fun v wr => ∃ (k : Nat) (ys : List UInt8), k ≤ 32 ∧ v = .int .i64 (k : Int) ∧ ys.length = 32 ∧ (∀ j, j < k → bt ys j = bt RM j) ∧ Ext w7 wr ∧ Ky wr w7.heap.size ys) (fun v _ => 32 - (intOf v).toNat)
        case atStart => exact ⟨0, zs, Nat.zero_le _, rfl, zl, fun j hj => absurd hj (by omega), (Ext.refl _).alloc _, kn.out⟩
        case round =>
          obtain ⟨k, ys, hk, rfl, yl, hv, he, ky⟩ := hrel
          clear kn
          by_cases hlt : k < 32
          · obtain ⟨a, ha⟩ : ∃ a, a = k / 4 := ⟨_, rfl⟩
            obtain ⟨b, hb⟩ : ∃ b, b = k % 4 := ⟨_, rfl⟩
            obtain ⟨sh, hs⟩ : ∃ sh, sh = 8 * b := ⟨_, rfl⟩
            have ia : (k : Int) / 4 = (a : Int) := by omega
            have ib : (k : Int) % 4 = (b : Int) := by omega
            have is : (8 : Int) * (b : Int) = (sh : Int) := by omega
            have a8 : a < 8 := by omega
            have a8' : (a : Int) < 8 := by omega
            have b4 : (b : Int) < 4 := by omega
            have s32 : (sh : Int) ≤ 32 := by omega
            have cv := CV.out _ he a a8
            have yb : bt RM k = wd V a / 2 ^ sh % 256 := by
              rw [RQ.out, bt_bytesL (by rw [RN]; omega), ← ha, ← hb, hs, show (256 : Nat) = 2 ^ 8 from rfl, ← Nat.pow_mul]
            obtain ⟨y, hy⟩ : ∃ y, y = wd V a / 2 ^ sh := ⟨_, rfl⟩
            have q1 : Op.shift .shr .u32 (wd V a : Int) .i64 (sh : Int) = pure (.int .u32 (y : Int)) := by
              have := shift_shr .u32 .i64 (wd V a : Int) (sh : Int) (by omega) (by show (sh : Int) ≤ 32; exact s32)
              rw [this, hy]
              simp
            have y8 : IntKind.u8.wrap (y : Int) = ((y % 256 : Nat) : Int) := by rw [IntKind.wrap_u8]; omega
            have y8' : (y : Int) % 256 = ((y % 256 : Nat) : Int) := by omega
            rw [← hy] at yb
            have hlt8 : y % 256 < 256 := Nat.mod_lt _ (by decide)
            generalize y % 256 = z at *
            have g1 := ky.cell hlt
            have g2 := ky.frozen k
            have ik : (k : Int) < 32 := by omega
            replace yb := Lib.hid yb
            replace hy := Lib.hid hy
            replace ha := Lib.hid ha
            replace hb := Lib.hid hb
            replace hs := Lib.hid hs
            replace hv := Lib.hid hv
            replace he := Lib.hid he
            replace ky := Lib.hid ky
            clear hlt8
            go_wp2_with fail
            have hz : (wd V a : Int) / 2 ^ sh % 256 = (z : Int) := by
              rw [← y8', hy.out, Int.natCast_ediv, Int.natCast_pow]; rfl
            rw [hz]
            have z256 : z < 256 := by rw [← yb.out]; exact bt_lt _ _
            refine ⟨⟨k + 1, ys.set k (UInt8.ofNat z), by omega, by go_num, by rw [List.length_set]; exact yl, fun j hj => ?_, he.out.setCell (Nat.le_refl _) _, ky.out.setB hlt z256⟩, by simp [intOf]; omega⟩
            rw [bt_set (by omega) z256]
            by_cases e : j = k
            · rw [if_pos e, e]; exact yb.out.symm
            · rw [if_neg e]; exact hv.out j (by omega)
          · obtain rfl : k = 32 := by omega
            have hy : ys = RM := list_bt (by rw [yl, ML]) fun j hj => hv j (by omega)
            subst hy
            have KK := Lib.hid (K7.out.ext he)
            have EE : Hid (Ext w wr) := E7.out.trans he
            have RS : (cellsOf ys).toArray.size = 32 := by simp [cellsOf_len, yl]
            have R1 := cellsOf_one ys
            have ZS : (cellsOf zs).toArray.size = 32 := by simp [cellsOf_len, zl]
            replace ky := Lib.hid ky
            clear hv he RQ RT CV K7 E7
            go_wp2_with (first
              | (refine wpList_load_row rfl 23 _ rfl w7.heap.size rfl 23 (cellsOf ys).toArray (0, 0) _ ky.out.1 rfl rfl (by rw [RS]; rfl) ?_; go_frame)
              | refine wpList_store_row rfl 23 _ _ rfl w.heap.size (cellsOf ys).toArray rfl rfl 23 _ KK.out.1 (by rw [RS]; rfl) (by rw [RS, ZS]) R1 ?_)
            (try simp only [Exit.inBlock, Exit.then])
            refine bodyPost_ret (v := .tuple #[.agg (cellsOf ys).toArray, .int .i64 0]) ?_ rfl ?_
            · exact results_row_tmp rfl _ _ w.heap.size 23 (cellsOf ys).toArray (0, 0) _ _ rfl rfl (setRow_heap _ _ _ _ _ _ KK.out.1) rfl rfl (by rw [RS]; rfl)
            · exact ⟨rfl, below_setRow EE.out (Nat.le_refl _) _⟩
end Go.Proofs.YtbnjmmefnjoofaaDoor
end

section
/-
  The document's Tag.
-/
namespace Go.Proofs.YtbnjmmefnjoofaaDoor
open Go.ChangeShapes Go.WideShapes Go.ChangeAt Go.RowKit Go.Deep

set_option maxRecDepth 100000 in
set_option maxHeartbeats 1000000 in
theorem refTag_calls {A : Option Addr} {m d : Nat} {ks bs : List UInt8} {w : World} (hk : ks.length = 32) (h : Bs w A m d bs) (hm : m ≤ 1000000) :
    Calls Tryd.prog 57 #[.agg (cellsOf ks).toArray, .slice A m d] w fun e w' => e = .returned (.agg (cellsOf (macL ks bs)).toArray) ∧ Ext w w' := by
  have hal : ∀ w, (zeroValue 23).run Tryd.prog w = .ok (.agg zeros32) w := fun _ => by kernel_rfl
  have HL : (cellsOf (macL ks bs)).toArray.size = 32 := by simp [cellsOf_len, macL_len]
  have H1 := cellsOf_one (macL ks bs)
  have KB : Hid (∀ o, Bs ((w.alloc (Obj.cells (cellsOf ks).toArray 23)).alloc o) (some ⟨w.heap.size, 0, none⟩) 32 32 ks) := fun o => (Ky.bs (Ky.boxed w hk)).ext ((Ext.refl _).alloc _)
  have CALL : Hid (∀ W, Ext w W → Bs W (some ⟨w.heap.size, 0, none⟩) 32 32 ks → Calls Tryd.prog 81 #[.slice (some ⟨w.heap.size, 0, none⟩) 32 32, .slice A m d] W fun e w' => e = .returned (.tuple #[.agg (cellsOf (macL ks bs)).toArray, .int .i64 0]) ∧ Ext W w') :=
    fun W e b => refMac_calls b (h.ext e) (by omega) hm
  have hz0 := zeros32_size
  generalize zeros32 = Z at *
  generalize (cellsOf (macL ks bs)).toArray = D at *
  generalize (cellsOf ks).toArray = KS at *
  go_enter Tryd.func57, Tryd.ntmps57
  go_wp2_with fail
  refine (CALL.out _ (((Ext.refl w).alloc _).alloc _) (KB.out _)).mono ?_
  rintro e w1 ⟨rfl, e1⟩
  have r0 := Lib.hid ((e1.block (w.heap.size + 1) (by rw [size_alloc, size_alloc]; omega)).trans (heap_alloc2 w (Obj.cells KS 23) (Obj.cells Z 23)))
  have r1 : Hid (((w1.alloc (Obj.cells Z 23)).setRow w1.heap.size D).heap[w.heap.size + 1]? = some (Obj.cells Z 23)) := (setRow_other _ _ _ _ (Nat.ne_of_lt (heap_lt r0.out))).trans (((Ext.refl w1).alloc _ |>.block _ (heap_lt r0.out)).trans r0.out)
  clear CALL KB
  go_wp2_with (first
    | refine wpList_store_row rfl 23 _ _ rfl w1.heap.size D rfl rfl 23 _ (by with_reducible exact heap_alloc_new _ _) (by rw [HL]; rfl) (by rw [HL]; exact hz0) H1 ?_
    | refine wpList_load_row rfl 23 _ rfl w1.heap.size rfl 23 D (0, 0) _ (by with_reducible exact setRow_heap _ _ _ _ _ _ (heap_alloc_new _ _)) rfl rfl (by rw [HL]; rfl) ?_
    | refine wpList_store_row rfl 23 _ _ rfl (w.heap.size + 1) D rfl rfl 23 Z (by with_reducible exact r1.out) (by rw [HL]; rfl) (by rw [HL]; exact hz0) H1 ?_)
  (try simp only [Exit.inBlock, Exit.then])
  refine bodyPost_ret (results_cell_row rfl _ _ (w.heap.size + 1) 23 D (0, 0) _ rfl (setRow_heap _ _ _ _ _ _ r1.out) rfl rfl (by rw [HL]; rfl)) rfl ?_
  exact ⟨rfl, below_setRow (below_setRow (((((Ext.refl w).alloc _).alloc _).trans e1).alloc _) (Nat.le_trans (Nat.le_succ _) (Nat.le_of_lt (heap_lt r0.out))) _) (Nat.le_succ _) _⟩
end Go.Proofs.YtbnjmmefnjoofaaDoor
end

section
/-
  The document's relay: New, Ack, Mails, Tag.
-/
namespace Go.Proofs.YtbnjmmefnjoofaaDoor
open Go.ChangeShapes Go.WideShapes Go.ChangeAt Go.RowKit Go.Deep Go.Maps
set_option maxRecDepth 100000

theorem rwnew_bad {w : World} {root : List UInt8} {z : Int} (h : z < 1 ∨ 1000000 < z) : Calls Tryd.prog 12 #[.agg (cellsOf root).toArray, .int .i64 z] w fun e w' => e = .returned (.tuple #[.pointer none, .int .i64 1]) ∧ Ext w w' := by
  have X := Lib.hid ((Ext.refl w).alloc (.cells (cellsOf root).toArray 23))
  by_cases h1 : z < 1
  · have u1 : decide (z < 1) = true := decide_eq_true h1
    clear h
    go_enter Tryd.func12, Tryd.ntmps12
    go_wp2_with fail
    go_ret2
    exact ⟨rfl, X.out⟩
  · have u1 : decide (z < 1) = false := decide_eq_false h1
    have u2 : decide (1000000 < z) = true := decide_eq_true (h.resolve_left h1)
    clear h
    go_enter Tryd.func12, Tryd.ntmps12
    go_wp2_with fail
    go_ret2
    exact ⟨rfl, X.out⟩
theorem rwnew_built {root : List UInt8} (lr : root.length = 32) (n : Nat) : Tryd.prog.built 90 [(0, .agg (cellsOf root).toArray), (1, .int .i64 (n : Int))] = some (rwC root n (fun _ => none)).toArray := by
  have h : ∃ pl : Nat → Option (Nat × Nat), (pl 0 = some (0, 32) ∧ pl 1 = some (32, 1)) ∧ ∀ ps, Tryd.prog.built 90 ps = Instr.fill pl (rwC zk 0 (fun _ => none)).toArray ps := ⟨(#[(0, 32), (32, 1), (33, 8)][·]?), ⟨rfl, rfl⟩, fun ps => by kernel_rfl⟩
  obtain ⟨pl, ⟨q0, q1⟩, hp⟩ := h
  rw [hp]
  unfold rwC
  have lz : (cellsOf zk).length = 32 := by rw [cellsOf_len]; rfl
  have l1 : (cellsOf root).length = 32 := by rw [cellsOf_len, lr]
  have lq : ((List.range 8).map fun j => rp (fun _ => none) j).length = 8 := rfl
  generalize ((List.range 8).map fun j => rp (fun _ => none) j) = Q at *
  generalize cellsOf zk = Z1 at *
  generalize cellsOf root = C1 at *
  rw [fill_step q0 (by rw [cells_agg, List.size_toArray, l1]) (by simp [lz, lq]), cells_agg, List.toList_toArray, splice_zero (by rw [lz, l1])]
  rw [fill_step q1 rfl (by simp [l1, lq]), show (Value.int .i64 (n : Int)).cells.toList = [Value.int .i64 (n : Int)] from rfl, splice_mid l1 (by simp)]
  simp [Instr.fill]
theorem rwnew_ok {w : World} {root : List UInt8} {n : Nat} (lr : root.length = 32) (n1 : 1 ≤ n) (n6 : n ≤ 1000000) :
    Calls Tryd.prog 12 #[.agg (cellsOf root).toArray, .int .i64 (n : Int)] w fun e w' => ∃ g, e = .returned (.tuple #[.pointer (some ⟨g, 0, none⟩), .int .i64 0]) ∧ w.heap.size ≤ g ∧ RW w.heap.size w' g root n (fun _ => none) 0 ∧ Ext w w' := by
  have u1 : decide ((n : Int) < 1) = false := decide_eq_false (by omega)
  have u2 : decide (1000000 < (n : Int)) = false := decide_eq_false (by omega)
  have S_r : (cellsOf root).toArray.size = 32 := by simp [cellsOf_len, lr]
  have hb := rwnew_built lr n
  obtain ⟨C, hC⟩ : ∃ C, C = rwC root n (fun _ => none) := ⟨_, rfl⟩
  rw [← hC] at hb
  have k0 : (w.alloc (.cells (cellsOf root).toArray 23)).heap[w.heap.size]? = some (.cells (cellsOf root).toArray 23 (0, 0)) := heap_alloc_new _ _
  have FIN : Hid (RW w.heap.size ((w.alloc (.cells (cellsOf root).toArray 23)).alloc (.cells C.toArray 90)) (w.heap.size + 1) root n (fun _ => none) 0 ∧ Ext w ((w.alloc (.cells (cellsOf root).toArray 23)).alloc (.cells C.toArray 90))) := by
    refine ⟨⟨fun _ => none, ⟨?_, lr, ⟨n1, n6⟩, (fun j a hj => by cases hj), by omega, (fun i j hi => by cases hi)⟩⟩, ((Ext.refl w).alloc _).alloc _⟩
    rw [hC]
    have := Cb.new (w.alloc (.cells (cellsOf root).toArray 23)) 90 (rwC root n fun _ => none)
    rwa [show (w.alloc (.cells (cellsOf root).toArray 23)).heap.size = w.heap.size + 1 by simp] at this
  replace hC := Lib.hid (fun _ : Unit => hC)
  go_enter Tryd.func12, Tryd.ntmps12
  go_wp2_with (first
    | ((with_reducible refine wpList_load_rowW (o := ⟨some 12, _, _, _, _, _⟩) ?_ 23 _ rfl w.heap.size ?_ 23 (cellsOf root).toArray (0, 0) _ ?_ Tryd.underlying23 ?_ ?_ ?_); (· rfl); (· rfl); (· exact k0); (· rfl); (· rw [S_r]; rfl); go_frame)
    | (refine wpList_build_as rfl _ _ rfl C.toArray (by simp only [List.map_toArray, List.map_cons, List.map_nil]; exact hb) ?_; go_frame))
  go_ret2
  exact ⟨_, rfl, by omega, FIN.out⟩
section
variable {B g ticks N : Nat} {w w' : World} {root : List UInt8} {own : Nat → Option Nat} {h : Nat → Option Ra}
/-- A box is put into, or let go from. -/
theorem RWx.boxed (k : RWx B w g root ticks own h N) {j : Nat} {a : Ra} (hj : h j = some a) (hB : B ≤ w.heap.size) {L : List Wm} {last : Int} {N' : Nat} (hN : N ≤ N') (hm : MBP 96 101 (fun i => fresh own w j i = some j) w' a.bx L last) (hl : L.length ≤ 8 ∧ 0 ≤ last ∧ last ≤ N') (x : TbP (fun i => fresh own w j i = some j) tagR w w') :
    RWx B w' g root ticks (fresh own w j) (updR h j (some { a with L := L, last := last })) N' ∧ Tb B tagX w w' := by
  have hA := k.ac j a hj
  have KT : ∀ (i : Nat) (cs : Array Value) (t : TypeId), w.heap[i]? = some (Obj.cells cs t (0, 0)) → tagR t = false → w'.heap[i]? = some (Obj.cells cs t (0, 0)) := fun i cs t hi hn => x.2.2.2.2 i _ hi (.inr hn)
  have ow : ∀ i l, fresh own w j i = some l → B ≤ i := fun i l hi => by
    by_cases q : i < w.heap.size
    · rw [fresh_old q] at hi; exact k.ow i l hi
    · omega
  refine ⟨⟨?_, k.lr, k.ti, fun l b hl' => ?_, k.lo, ow⟩, ⟨x.1, x.2.1, x.2.2.1, x.2.2.2.1, fun i o hi hc => x.2.2.2.2 i o hi ?_⟩⟩
  · have e : rwC root ticks (updR h j (some { a with L := L, last := last })) = rwC root ticks h := rwC_same fun i => by
      unfold rp
      by_cases e : i = j
      · subst e; rw [updR_same, hj]; rfl
      · rw [updR_other _ _ e]
    rw [e]
    exact KT _ _ _ k.cb (by decide)
  · by_cases e : l = j
    · subst e
      rw [updR_same] at hl'
      injection hl' with hl'
      subst hl'
      exact ⟨hA.ln, KT _ _ _ hA.cb (by decide), (fresh_old hA.cb.lt).trans hA.oa, hA.ks.keep fun i cs z => KT i cs _ z (by decide), hm, (fresh_old hA.mb.lt).trans hA.ob, KT _ _ _ hA.bu (by decide), hA.ok, (fresh_old hA.bu.lt).trans hA.ot, hl⟩
    · rw [updR_other _ _ e] at hl'
      refine (k.ac l b hl').keep (fun i hi z => (fresh_old hi).trans z) hN fun i cs t z y => ?_
      rcases y with ⟨y, _⟩ | rfl | rfl
      · refine x.2.2.2.2 i _ z (.inl fun q => ?_)
        replace q : fresh own w j i = some j := q
        rw [fresh_old (heap_lt z), y] at q
        exact e (Option.some.inj q)
      · exact KT i cs _ z (by decide)
      · exact KT i cs _ z (by decide)
  · rcases hc with z | z
    · exact .inl fun q => by have := ow i j q; omega
    · right
      cases o with
      | cells cs t fr =>
        have z : tagX t = false := z
        show tagR t = false
        rcases e : tagR t with _ | _
        · rfl
        · unfold tagR at e
          simp only [Bool.or_eq_true, beq_iff_eq] at e
          rcases e with rfl | rfl
          · exact absurd z (by decide)
          · exact absurd z (by decide)
      | _ => rfl
theorem rwack_no (k : RW B w g root ticks h N) {n id : Int} (h1 : -9223372036854775808 ≤ n) (h2 : n ≤ 9223372036854775807) (hn : fdR h n = none) : Calls Tryd.prog 31 #[.pointer (some ⟨g, 0, none⟩), .int .i64 n, .int .i64 id] w fun e w' => e = .returned (.int .i64 7) ∧ w' = w := by
  have FN := Lib.hid (of_no k h1 h2 hn)
  clear k h1 h2 hn
  go_enter Tryd.func31, Tryd.ntmps31
  go_wp2_with fail
  refine FN.out.mono ?_
  rintro e w1 ⟨rfl, rfl⟩
  go_wp2_with fail
  go_ret
  exact ⟨rfl, rfl⟩
theorem rwack_ok (k : RW B w g root ticks h N) (hB : B ≤ w.heap.size) {j : Nat} {a : Ra} (hj : h j = some a) (j8 : j < 8) (id : Int) : Calls Tryd.prog 31 #[.pointer (some ⟨g, 0, none⟩), .int .i64 (j : Int), .int .i64 id] w fun e w' => e = .returned (.int .i64 (akE a.L a.last id)) ∧ RW B w' g root ticks (updR h j (some { a with L := akL a.L a.last id })) N ∧ Tb B tagX w w' := by
  have FN := Lib.hid (of_ok k hj j8)
  have hA := k.acc hj
  have c3 := hA.2.1.cell (a.a0 hA.1).2.1
  have AK : Hid (Calls Tryd.prog 55 #[.pointer (some ⟨a.bx, 0, none⟩), .int .i64 id] w fun e w' => e = .returned (.int .i64 (akE a.L a.last id)) ∧ RW B w' g root ticks (updR h j (some { a with L := akL a.L a.last id })) N ∧ Tb B tagX w w') := by
    obtain ⟨own, k⟩ := k
    have kA := k.ac j a hj
    have hm : MBP 96 101 (fun i => fresh own w j i = some j) w a.bx a.L a.last := kA.mb.mono fun i hi z => (fresh_old hi).trans z
    have hg : fresh own w j a.bx = some j := (fresh_old kA.mb.lt).trans kA.ob
    refine (rackP_calls (id := id) hm kA.le.1 (fun i hi => fresh_new hi) hg).mono ?_
    rintro e w' ⟨rfl, m', x⟩
    have := k.boxed hj hB (Nat.le_refl N) m' ⟨Nat.le_trans (akL_le _ _ _) kA.le.1, kA.le.2⟩ x
    exact ⟨rfl, ⟨_, this.1⟩, this.2⟩
  clear k hj hB hA
  generalize a.bk = bk at *
  generalize a.bx = bx at *
  go_enter Tryd.func31, Tryd.ntmps31
  go_wp2_with fail
  refine FN.out.mono ?_
  rintro e w1 ⟨rfl, rfl⟩
  go_wp2_with fail
  refine AK.out.mono ?_
  rintro e w2 ⟨rfl, r2, t2⟩
  replace r2 := Lib.hid r2
  replace t2 := Lib.hid t2
  clear AK FN
  go_wp2_with fail
  go_ret
  exact ⟨rfl, r2.out, t2.out⟩
theorem rwmails_no (k : RW B w g root ticks h N) {n : Int} (h1 : -9223372036854775808 ≤ n) (h2 : n ≤ 9223372036854775807) (hn : fdR h n = none) : Calls Tryd.prog 15 #[.pointer (some ⟨g, 0, none⟩), .int .i64 n] w fun e w' => e = .returned (.tuple #[.slice none 0 0, .int .i64 7]) ∧ w' = w := by
  have FN := Lib.hid (of_no k h1 h2 hn)
  clear k h1 h2 hn
  go_enter Tryd.func15, Tryd.ntmps15
  go_wp2_with fail
  refine FN.out.mono ?_
  rintro e w1 ⟨rfl, rfl⟩
  go_wp2_with fail
  go_ret2
  exact ⟨rfl, rfl⟩
theorem rwmails_ok (k : RW B w g root ticks h N) {j : Nat} {a : Ra} (hj : h j = some a) (j8 : j < 8) : Calls Tryd.prog 15 #[.pointer (some ⟨g, 0, none⟩), .int .i64 (j : Int)] w fun e w' => ∃ (A : Option Addr) (n c : Nat), e = .returned (.tuple #[.slice A n c, .int .i64 0]) ∧ Cs w 138 A n c (a.L.map Wm.C) ∧ (∀ x ∈ a.L, x.d.ok ∧ BsF 0 w x.A x.d.body.length x.c x.d.body) ∧ w' = w := by
  have FN := Lib.hid (of_ok k hj j8)
  have hA := k.acc hj
  have c3 := hA.2.1.cell (a.a0 hA.1).2.1
  obtain ⟨A, n, c, hcb, how, hbd⟩ := hA.2.2.2.1
  have c0 := hcb.cell (j := 0) rfl
  have CSH := Lib.hid how.cs
  replace hbd := Lib.hid hbd
  clear k hj hA how hcb
  generalize a.bk = bk at *
  generalize a.bx = bx at *
  go_enter Tryd.func15, Tryd.ntmps15
  go_wp2_with fail
  refine FN.out.mono ?_
  rintro e w1 ⟨rfl, rfl⟩
  go_wp2_with fail
  go_ret2
  exact ⟨A, n, c, rfl, CSH.out, hbd.out, rfl⟩
end
set_option maxHeartbeats 4000000 in
theorem rwtag_calls {w : World} {lk : List UInt8} (ll : lk.length = 32) {f t p n : Int} {cm pk body : List UInt8} {A : Option Addr} {m c : Nat} (hc : cm.length = 32) (hk : pk.length = 32) (hb : Bs w A m c body) :
    Calls Tryd.prog 33 #[.agg (cellsOf lk).toArray, .agg (evC f t cm pk p n A m c).toArray] w fun e w' => e = .returned (.tuple #[.agg (cellsOf (tgL lk f t cm pk p n body)).toArray, .int .i64 (enE f t p n m)]) ∧ Ext w w' := by
  have lm := hb.len
  have HE : Hid (∀ W, Ext w W → Calls Tryd.prog 56 #[.agg (evC f t cm pk p n A m c).toArray] W (RetBsE (enX f t cm pk p n body) (enE f t p n m) W)) := fun W e => renv_calls hc hk (hb.ext e)
  have LX : (enX f t cm pk p n body).length ≤ 1000000 := by
    unfold enX
    split
    · rename_i q
      rw [envL_len hc hk]
      obtain ⟨_, _, _, _, _, _, _, _, _, _, _, _, hm, _, _⟩ := okE_nat q
      omega
    · exact Nat.zero_le _
  have MC : Hid (∀ (W : World) (A' : Option Addr) (k d : Nat), Bs W A' k d (enX f t cm pk p n body) → Calls Tryd.prog 57 #[.agg (cellsOf lk).toArray, .slice A' k d] W fun e w' => e = .returned (.agg (cellsOf (macL lk (enX f t cm pk p n body))).toArray) ∧ Ext W w') := fun W A' k d b => refTag_calls ll b (by rw [← b.len]; exact LX)
  obtain ⟨F1, F0⟩ := tgE_facts (lk := lk) (f := f) (t := t) (cm := cm) (pk := pk) (p := p) (n := n) (body := body)
  rw [lm] at F1 F0
  replace F1 := Lib.hid F1
  replace F0 := Lib.hid F0
  have L_ev := evC_len hc hk f t p n A m c
  clear hb LX
  generalize tgL lk f t cm pk p n body = TL at *
  generalize enE f t p n m = ER at *
  have ML := macL_len lk (enX f t cm pk p n body)
  generalize macL lk (enX f t cm pk p n body) = D at *
  generalize enX f t cm pk p n body = X at *
  generalize evC f t cm pk p n A m c = ev at *
  have S_ev : ev.toArray.size = 69 := by rw [List.size_toArray, L_ev]
  have S_k : (cellsOf lk).toArray.size = 32 := by simp [cellsOf_len, ll]
  have S_D : (cellsOf D).toArray.size = 32 := by simp [cellsOf_len, ML]
  have O_D := cellsOf_one D
  have hal := key_alloc16
  have BZ := Lib.hid zeros32_built
  have S_Z := zeros32_size
  have O_Z := zeros32_one
  have ZZ : Hid (zeros32 = (cellsOf zk).toArray) := zeros32_cells.symm
  generalize zeros32 = Z at *
  obtain ⟨r, hr⟩ : ∃ x, x = w.heap.size := ⟨_, rfl⟩
  have B0 : Hid (Ky (((w.alloc (.cells (cellsOf lk).toArray 23)).alloc (.cells ev.toArray 37)).alloc (.cells Z 23)) r lk ∧ Cb (((w.alloc (.cells (cellsOf lk).toArray 23)).alloc (.cells ev.toArray 37)).alloc (.cells Z 23)) (r + 1) 37 ev ∧ (((w.alloc (.cells (cellsOf lk).toArray 23)).alloc (.cells ev.toArray 37)).alloc (.cells Z 23)).heap[r + 1 + 1]? = some (.cells Z 23 (0, 0)) ∧ Ext w (((w.alloc (.cells (cellsOf lk).toArray 23)).alloc (.cells ev.toArray 37)).alloc (.cells Z 23))) := by
    rw [hr]; exact ⟨⟨heap_alloc30 _ _ _ _, ll⟩, heap_alloc31 _ _ _ _, heap_alloc32 _ _ _ _, (((Ext.refl w).alloc _).alloc _).alloc _⟩
  go_enter Tryd.func33, Tryd.ntmps33
  go_upto_region 1 with fail
  refine wp_gen (fun W => Ky W r lk ∧ Cb W (r + 1) 37 ev ∧ W.heap[r + 1 + 1]? = some (.cells Z 23 (0, 0)) ∧ Ext w W) B0.out ?_
  rw [← hr]
  have wr : w.heap.size ≤ r := Nat.le_of_eq hr.symm
  replace hr := Lib.hid hr
  clear B0
  rintro w0 ⟨k0, k1, k2, x0⟩
  have HE0 := Lib.hid (HE.out w0 x0)
  replace k0 := Lib.hid k0
  replace k2 := Lib.hid k2
  replace x0 := Lib.hid x0
  clear HE
  go_wp2_with (first | ((with_reducible refine wpList_load_rowW (o := ⟨some 9, _, _, _, _, _⟩) ?_ 37 _ rfl (r + 1) ?_ 37 ev.toArray (0, 0) _ ?_ Tryd.underlying37 ?_ ?_ ?_); (· rfl); (· rfl); (· exact k1); (· rfl); (· rw [S_ev]; rfl); go_frame))
  refine HE0.out.mono ?_
  rintro e w1 ⟨A1, n1, c1, rfl, b1, x1⟩
  have X1 : Hid (Ext w w1) := x0.out.trans x1
  have K1 := (k0.out.ext x1).1
  have k2 := (x1.block _ (heap_lt k2.out)).trans k2.out
  replace b1 := Lib.hid b1
  clear k0 k1 x0 x1 HE0
  rcases q : okE f t p n m with _ | _
  · obtain ⟨p1, p2⟩ := F0.out q
    replace p1 : Hid ((cellsOf TL).toArray = Z) := by unfold Hid; rw [p1, ZZ.out]
    subst p2
    have FIN : Hid (Ext w (w1.setRow (r + 1 + 1) Z)) := below_setRow X1.out (by omega) _
    clear F1 F0 MC b1 K1 q
    go_wp2_with (first
      | (refine wpList_build_as rfl _ _ rfl Z (by simp only [List.map_toArray, List.map_nil]; exact BZ.out) ?_; go_frame)
      | (refine wpList_store_row rfl 23 _ _ rfl (r + 1 + 1) Z rfl rfl 23 Z k2 (by rw [S_Z]; rfl) rfl O_Z ?_; simp only [Act.put]))
    (try simp only [Exit.inBlock, Exit.then])
    refine bodyPost_ret (results_row_tmp rfl _ _ (r + 1 + 1) 23 Z (0, 0) _ _ rfl rfl (setRow_heap _ _ _ _ _ _ k2) rfl rfl (by rw [S_Z]; rfl)) rfl ?_
    exact ⟨by rw [p1.out]; rfl, FIN.out⟩
  · obtain ⟨p1, p2⟩ := F1.out q
    replace p1 : Hid (TL = D) := p1
    subst p2
    have MC1 := Lib.hid (MC.out w1 A1 n1 c1 b1.out)
    clear F1 F0 MC b1 q
    go_wp2_with (first | ((with_reducible refine wpList_load_rowW (o := ⟨some 17, _, _, _, _, _⟩) ?_ 23 _ rfl r ?_ 23 (cellsOf lk).toArray (0, 0) _ ?_ Tryd.underlying23 ?_ ?_ ?_); (· rfl); (· rfl); (· exact K1); (· rfl); (· rw [S_k]; rfl); go_frame))
    refine MC1.out.mono ?_
    rintro e w2 ⟨rfl, x2⟩
    have k3 := (x2.block _ (heap_lt k2)).trans k2
    have FIN : Hid (Ext w (w2.setRow (r + 1 + 1) (cellsOf D).toArray)) := below_setRow (X1.out.trans x2) (by omega) _
    clear MC1 K1 k2 X1 x2
    go_wp2_with (first
      | (refine wpList_store_row rfl 23 _ _ rfl (r + 1 + 1) (cellsOf D).toArray rfl rfl 23 Z k3 (by rw [S_D]; rfl) (by rw [S_D, S_Z]) O_D ?_; simp only [Act.put]))
    (try simp only [Exit.inBlock, Exit.then])
    refine bodyPost_ret (results_row_tmp rfl _ _ (r + 1 + 1) 23 (cellsOf D).toArray (0, 0) _ _ rfl rfl (setRow_heap _ _ _ _ _ _ k3) rfl rfl (by rw [S_D]; rfl)) rfl ?_
    exact ⟨by rw [p1.out]; rfl, FIN.out⟩
end Go.Proofs.YtbnjmmefnjoofaaDoor
end
