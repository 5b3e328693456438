import Derived.Test.YthdjojindijmnaaDoorPkL
import Derived.Lib.AppendStr
import Derived.Lib.AppendZerosOnto
import Derived.Test.YthdjojindijmnaaDoorPkM
section
/-
  append of a string's bytes, and of noughts, onto a row of the call's own.
-/
namespace Go.Proofs.YthdjojindijmnaaDoor
open Go.ChangeShapes Go.WideShapes Go.ChangeAt Go.RowKit Go.Deep

/-- What a slice that owns a row looks like. -/
theorem own_form {w' : World} {B k : Nat} {v' : Value} {xs : List UInt8} (ho : w'.ownsRow B 5 1 v' k (xs.map u8v)) : ∃ A'' c'', v' = .slice A'' k c'' ∧ Own B w' A'' k c'' xs := by
  rcases ho.2 with ⟨hv, hn⟩ | ⟨g, cap, cur, hv, _⟩
  · refine ⟨none, 0, by rw [hv, hn], ?_⟩
    rw [hv] at ho
    unfold Own
    rw [show (Value.slice none k 0) = .slice none 0 0 by rw [hn]]
    exact ho
  · refine ⟨_, _, hv, ?_⟩
    rw [hv] at ho
    exact ho

theorem append_str {w : World} {B : Nat} {A : Option Addr} {n c : Nat} {xs ys : List UInt8} (ty : TypeId) (h : Own B w A n c xs) (hm : n + ys.length ≤ 140737488355328) (hB : B ≤ w.heap.size) :
    ∃ A'' c'' w', (Builtin.append_ #[34, 9] ty #[.slice A n c, .string (strL ys)]).run Tryd.prog w = .ok (.slice A'' (n + ys.length) c'') w' ∧ Own B w' A'' (n + ys.length) c'' (xs ++ ys) ∧ w.grownBy w' (Value.ownBlock (.slice A n c)) := by
  obtain ⟨i, hi, hz0, hz1, hz2⟩ := info_parts info8
  obtain ⟨v', w', hr, ho, hg, _⟩ := Lib.run_append_own_string (P := Tryd.prog) w B 34 9 ty 5 i Tryd.underlying34 Tryd.underlying9 hi hz0 hz1 hz2 (.slice A n c) n (xs.map u8v) h (strL ys) (by rw [strL_size]; unfold maxLen; omega) (by rw [strL_size]; exact hm) hB
  rw [strL_size] at ho
  have e : xs.map u8v ++ Lib.strCells (strL ys) = (xs ++ ys).map u8v := by
    rw [List.map_append]
    congr 1
  rw [e] at ho
  obtain ⟨A'', c'', rfl, ho'⟩ := own_form ho
  exact ⟨A'', c'', w', hr, ho', hg⟩

theorem wp_append_str {w : World} {o : Oper} {a : Act} {K : Act → World → Prop} {Q : Exit → Act → World → Prop} {B : Nat} {A : Option Addr} {n c : Nat} {xs ys : List UInt8} {s x : Operand}
    (ho : o.op = .call { callee := .builtin .append, args := #[s, x], argTypes := #[34, 9] }) (hs : a.eval s = .slice A n c) (hx : a.eval x = .string (strL ys))
    (h : Own B w A n c xs) (hm : n + ys.length ≤ 140737488355328) (hB : B ≤ w.heap.size)
    (hK : ∀ A'' c'' w', Own B w' A'' (n + ys.length) c'' (xs ++ ys) → w.grownBy w' (Value.ownBlock (.slice A n c)) → Below B w w' → K (a.put o.dst (.slice A'' (n + ys.length) c'')) w') : o.wp Tryd.prog a w K Q := by
  obtain ⟨A'', c'', w', hrun, h2, h3⟩ := append_str o.type h hm hB
  unfold Oper.wp execOp
  simp only [ho, resolve, invoke, builtin, Sem.run_bind, Sem.run_pure, Result.andThen_ok, List.map_toArray, List.map_cons, List.map_nil, hs, hx, hrun]
  exact hK A'' c'' w' h2 h3 ((Below.refl B w).grown h3 hB h.ge)

theorem wpList_append_str {w : World} {ops : Array Oper} {rest : List Oper} {o : Oper} {a : Act} {Q : Exit → Act → World → Prop} (hgd : o.guard = none) {B : Nat} {A : Option Addr} {n c : Nat} {xs ys : List UInt8} {s x : Operand}
    (ho : o.op = .call { callee := .builtin .append, args := #[s, x], argTypes := #[34, 9] }) (hs : a.eval s = .slice A n c) (hx : a.eval x = .string (strL ys))
    (h : Own B w A n c xs) (hm : n + ys.length ≤ 140737488355328) (hB : B ≤ w.heap.size)
    (hK : ∀ A'' c'' w', Own B w' A'' (n + ys.length) c'' (xs ++ ys) → w.grownBy w' (Value.ownBlock (.slice A n c)) → Below B w w' → wpList Tryd.prog ops Q rest (a.put o.dst (.slice A'' (n + ys.length) c'')) w') : wpList Tryd.prog ops Q (o :: rest) a w :=
  wpList_plain hgd fun _ hK' => wp_append_str ho hs hx h hm hB fun A'' c'' w' h2 h3 h4 => hK' _ _ (hK A'' c'' w' h2 h3 h4)

/-- One byte in a block of its own. -/
theorem Bs.one (w : World) (t : TypeId) (fr : Nat × Nat) (x : UInt8) : Bs (w.alloc (.cells #[.int .u8 (x.toNat : Int)] t fr)) (some ⟨w.heap.size, 0, none⟩) 1 1 [x] :=
  Bs.of_list rfl (heap_alloc_new _ _) ⟨rfl, by omega⟩
end Go.Proofs.YthdjojindijmnaaDoor
end

section
/-
  Layer 3 in closed form: the bytes of a key for a purpose. No conditions.
-/
namespace Go.Proofs.YthdjojindijmnaaDoor

/-- The i-th block of a key for a purpose (from 1 on). -/
def blkL (ks ps : List UInt8) : Nat → List UInt8
  | 0 => []
  | i + 1 => macL ks (blkL ks ps i ++ ps ++ [UInt8.ofNat (i + 1)])
/-- The first i blocks. -/
def outL (ks ps : List UInt8) : Nat → List UInt8
  | 0 => []
  | i + 1 => outL ks ps i ++ blkL ks ps (i + 1)
theorem blkL_len (ks ps : List UInt8) (i : Nat) : (blkL ks ps (i + 1)).length = 32 := by rw [blkL, macL_len]
theorem outL_len (ks ps : List UInt8) : ∀ i, (outL ks ps i).length = 32 * i
  | 0 => rfl
  | i + 1 => by rw [outL, List.length_append, outL_len ks ps i, blkL_len]; omega
/-- So many bytes. -/
def spreadL (ks ps : List UInt8) (m : Nat) : List UInt8 := (outL ks ps ((m + 31) / 32)).take m
theorem spreadL_len (ks ps : List UInt8) (m : Nat) : (spreadL ks ps m).length = m := by
  unfold spreadL
  rw [List.length_take, outL_len]; omega
theorem outL_take (ks ps : List UInt8) {n i : Nat} (h : n ≤ 32 * i) : ∀ d, (outL ks ps (i + d)).take n = (outL ks ps i).take n
  | 0 => rfl
  | d + 1 => by
    rw [← Nat.add_assoc, outL, List.take_append_of_le_length (by rw [outL_len]; omega), outL_take ks ps h d]
theorem spreadL_take (ks ps : List UInt8) {n m : Nat} (h : n ≤ m) : (spreadL ks ps m).take n = spreadL ks ps n := by
  unfold spreadL
  rw [List.take_take, Nat.min_eq_left h]
  have h1 : (m + 31) / 32 = (n + 31) / 32 + ((m + 31) / 32 - (n + 31) / 32) := by omega
  rw [h1, outL_take ks ps (by omega)]
theorem spreadL_32 (ks ps : List UInt8) : spreadL ks ps 32 = macL ks (ps ++ [1]) := by
  unfold spreadL
  rw [show (32 + 31) / 32 = 0 + 1 from rfl, outL, outL, blkL, blkL]
  simp only [List.nil_append, Nat.zero_add]
  rw [List.take_of_length_le (by rw [macL_len]; omega)]
  rfl
/-- A key's key for a purpose. -/
def keyL (ks ps : List UInt8) : List UInt8 := macL ks (ps ++ [1])
theorem keyL_len (ks ps : List UInt8) : (keyL ks ps).length = 32 := macL_len _ _
end Go.Proofs.YthdjojindijmnaaDoor
end

section
/-
  The closure of kdf.Spread: one block more.
-/
namespace Go.Proofs.YthdjojindijmnaaDoor
open Go.ChangeShapes Go.WideShapes Go.ChangeAt Go.RowKit Go.Deep

/-- The worlds of Spread: the key, the purpose, what was told, the last block. -/
def Sp (w wr : World) (ks ps : List UInt8) (O : Option Addr) (on oc : Nat) (os : List UInt8) (L : Option Addr) (ln lc : Nat) (ls : List UInt8) : Prop :=
  Ext w wr ∧ wr.heap[w.heap.size]? = some (.cells (cellsOf ks).toArray 23 (0, 0)) ∧ wr.heap[w.heap.size + 1]? = some (.cells #[.string (strL ps)] 9 (0, 0)) ∧
  wr.heap[w.heap.size + 1 + 1]? = some (.cells #[.slice O on oc] 34 (0, 0)) ∧ wr.heap[w.heap.size + 1 + 1 + 1]? = some (.cells #[.slice L ln lc] 34 (0, 0)) ∧ Own (w.heap.size + 1 + 1 + 1 + 1) wr O on oc os ∧ Bs wr L ln lc ls
theorem Sp.size {w wr : World} {ks ps os ls : List UInt8} {O L : Option Addr} {on oc ln lc : Nat} (h : Sp w wr ks ps O on oc os L ln lc ls) : w.heap.size + 1 + 1 + 1 < wr.heap.size := heap_lt h.2.2.2.2.1
theorem Sp.ext {w wr wr' : World} {ks ps os ls : List UInt8} {O L : Option Addr} {on oc ln lc : Nat} (h : Sp w wr ks ps O on oc os L ln lc ls) (e : Ext wr wr') : Sp w wr' ks ps O on oc os L ln lc ls := by
  obtain ⟨a, b, c, d, f, g, i⟩ := h
  exact ⟨a.trans e, (e.block _ (heap_lt b)).trans b, (e.block _ (heap_lt c)).trans c, (e.block _ (heap_lt d)).trans d, (e.block _ (heap_lt f)).trans f, g.ext e, i.ext e⟩
/-- The closure's end. -/
def SpTo (w : World) (ks ps os ls : List UInt8) (e : Ending) (w' : World) : Prop :=
  e = .returned (.tuple #[]) ∧ ∃ O n c L lc, Sp w w' ks ps O n c os L 32 lc ls

set_option maxRecDepth 100000 in
set_option maxHeartbeats 2000000 in
theorem spr1_calls {w wr : World} {ks ps os ls : List UInt8} {O L : Option Addr} {on oc ln lc : Nat} {x : UInt8} (hk : ks.length = 32) (h : Sp w wr ks ps O on oc os L ln lc ls) (h1 : ps.length ≤ 1000000) (h2 : ln ≤ 32) (h3 : on ≤ 1000000) {tg : TypeId × Nat × Nat} (hG : Gl w tg) :
    Calls Tryd.prog 67 #[.int .u8 (x.toNat : Int), .pointer (some ⟨w.heap.size + 1 + 1 + 1, 0, none⟩), .pointer (some ⟨w.heap.size + 1, 0, none⟩), .pointer (some ⟨w.heap.size, 0, none⟩), .pointer (some ⟨w.heap.size + 1 + 1, 0, none⟩)] wr (SpTo w ks ps (os ++ macL ks (ls ++ ps ++ [x])) (macL ks (ls ++ ps ++ [x]))) := by
  have LT := h.size
  have KEEP : Hid (∀ w', Ext wr w' → w'.cell? ⟨w.heap.size + 1, 0, none⟩ = some (.string (strL ps)) ∧ w'.cell? ⟨w.heap.size + 1 + 1, 0, none⟩ = some (.slice O on oc) ∧ w'.cell? ⟨w.heap.size + 1 + 1 + 1, 0, none⟩ = some (.slice L ln lc)) := fun w' e => ⟨cell_of_one (h.ext e).2.2.1, cell_of_one (h.ext e).2.2.2.1, cell_of_one (h.ext e).2.2.2.2.1⟩
  have HS := Lib.hid h
  have HG := Lib.hid (fun W e => Gl.kept hG (w' := W) e hG.lt)
  clear hG
  have cL := (KEEP.out _ (Ext.refl wr)).2.2
  have i := Lib.hid h.2.2.2.2.2.2
  have ML := macL_len ks (ls ++ ps ++ [x])
  generalize hm : macL ks (ls ++ ps ++ [x]) = m at *
  replace hm := Lib.hid hm
  have KS : (cellsOf ks).toArray.size = 32 := by simp [cellsOf_len, hk]
  have MS : (cellsOf m).toArray.size = 32 := by simp [cellsOf_len, ML]
  have M1 := cellsOf_one m
  have hal : ∀ w, (zeroValue 23).run Tryd.prog w = .ok (.agg zeros32) w := fun _ => by kernel_rfl
  have hz0 := zeros32_size
  generalize zeros32 = Z at *
  clear h
  go_enter Tryd.func67, Tryd.ntmps67
  go_wp2_with (first
    | (at_builtin; (with_reducible refine wpList_append_bs rfl (B := wr.heap.size) (s := .tmp 8) (x := .tmp 9) rfl rfl rfl (Own.nil _ wr) i.out (by omega) (Nat.le_refl _) ?_); intro A1 c1 w1 o1 g1 b1; clear g1; simp only [Nat.zero_add, List.nil_append] at o1 ⊢; replace o1 := Lib.hid o1; have k1 := (KEEP.out _ b1).1; replace b1 := Lib.hid b1; simp only [Act.put, List.setIfInBounds_toArray, List.set_cons_zero, List.set_cons_succ])
    | (at_builtin; (with_reducible refine wpList_append_str rfl (ys := ps) (B := wr.heap.size) (s := .tmp 11) (x := .tmp 12) rfl rfl rfl o1.out (by omega) b1.out.size ?_); intro A2 c2 w2 o2 g2 b2; clear g2; replace o2 := Lib.hid o2; replace b2 := Lib.hid (Below.trans b1.out b2); clear k1; simp only [Act.put, List.setIfInBounds_toArray, List.set_cons_zero, List.set_cons_succ])
    | (at_builtin; (with_reducible refine wpList_append_bs rfl (B := wr.heap.size) (s := .tmp 14) (x := .tmp 16) rfl rfl rfl (o2.out.ext ((Ext.refl _).alloc _)) (Bs.one _ _ _ _) (by omega) (Nat.le_trans b2.out.size (by simp)) ?_); intro A3 c3 w3 o3 g3 b3; clear g3; replace o3 := Lib.hid o3.bs; replace b3 := Lib.hid (Below.trans (Below.alloc b2.out b2.out.size _) b3); simp only [Act.put, List.setIfInBounds_toArray, List.set_cons_zero, List.set_cons_succ])
    | (refine wpList_load_row rfl 23 _ rfl w.heap.size rfl 23 (cellsOf ks).toArray (0, 0) _ (HS.out.ext b3.out).2.1 rfl rfl (by rw [KS]; rfl) ?_; simp only [Act.put, List.setIfInBounds_toArray, List.set_cons_zero, List.set_cons_succ]))
  have dc := draw_calls hk o3.out (HG.out _ (HS.out.1.trans b3.out))
  rw [hm.out] at dc
  refine dc.mono ?_
  clear dc
  rintro e w4 ⟨rfl, e4⟩
  go_upto_region 5 with (refine wpList_store_row rfl 23 _ _ rfl w4.heap.size (cellsOf m).toArray rfl rfl 23 _ (by with_reducible exact heap_alloc_new _ _) (by rw [MS]; rfl) (by rw [MS]; exact hz0) M1 ?_; simp only [Act.put, List.setIfInBounds_toArray, List.set_cons_zero, List.set_cons_succ])
  have E4 : Ext wr w4 := Ext.trans (show Ext wr w3 from b3.out) e4
  have gE : wr.heap.size ≤ w4.heap.size := E4.size
  refine wp_gen (fun W => Ext wr W ∧ Ky W w4.heap.size m) ⟨E4.trans (Ext.newRow _ _ _), Ky.new _ ML⟩ ?_
  rintro w5 ⟨e5, ky5⟩
  generalize w4.heap.size = gb at *
  clear E4 e4 o3 b3 o1 b1 o2 b2
  have S5 := HS.out.ext e5
  have c5 := cell_of_one S5.2.2.2.2.1
  have f5 := free_of_one S5.2.2.2.2.1
  replace S5 := Lib.hid S5
  replace e5 := Lib.hid e5
  replace ky5 := Lib.hid ky5
  go_upto_region 6 with fail
  have OB : ∀ g, Value.ownBlock (.slice O on oc) = some g → w.heap.size + 1 + 1 + 1 + 1 ≤ g ∧ g < wr.heap.size := fun g hg => World.ownsRow.lt HS.out.2.2.2.2.2.1 g hg
  refine wp_gen (fun W => Sp w W ks ps O on oc os (some ⟨gb, 0, none⟩) 32 32 m ∧ Ky W gb m) ?_ ?_
  · obtain ⟨a, b, c, d, f, g, i⟩ := S5.out
    have bl : ∀ j o, w5.heap[j]? = some o → j ≠ w.heap.size + 1 + 1 + 1 → (w5.setCell ⟨w.heap.size + 1 + 1 + 1, 0, none⟩ (.slice (some ⟨gb, 0, none⟩) 32 32)).heap[j]? = some o := fun j o hj hne => (Below.heap_setCell _ _ _ _ hne).trans hj
    have ky6 : Ky (w5.setCell ⟨w.heap.size + 1 + 1 + 1, 0, none⟩ (.slice (some ⟨gb, 0, none⟩) 32 32)) gb m := ⟨bl _ _ ky5.out.1 (by omega), ky5.out.2⟩
    refine ⟨⟨a.setCell (show w.heap.size ≤ w.heap.size + 1 + 1 + 1 by omega) _, bl _ _ b (by omega), bl _ _ c (by omega), bl _ _ d (by omega), one_setCell f, ?_, ky6.bs⟩, ky6⟩
    refine Own.kept g (gr_set (gr_ext (Ext.refl w5) _) 0 _) (.inr fun hq => ?_)
    have := (OB _ hq).1
    omega
  rintro w6 ⟨S6, ky6⟩
  have c6 := cell_of_one S6.2.2.2.1
  have l6 := cell_of_one S6.2.2.2.2.1
  have o6 := Lib.hid S6.2.2.2.2.2.1
  have d6 := Lib.hid S6.2.2.2.1
  have kb6 := Lib.hid ky6.bs
  replace S6 := Lib.hid S6
  replace ky6 := Lib.hid ky6
  have z6 : w.heap.size + 1 + 1 + 1 + 1 ≤ w6.heap.size := S6.out.size
  clear c5 f5 S5 e5 ky5 KEEP cL i
  go_wp2_with (at_builtin; ((with_reducible refine wpList_append_bs rfl (B := w.heap.size + 1 + 1 + 1 + 1) (s := .tmp 22) (x := .tmp 23) rfl rfl rfl o6.out kb6.out (by omega) z6 ?_); intro A7 c7 w7 o7 g7 b7; have h7 := (b7.block (w.heap.size + 1 + 1) (by omega)).trans d6.out; have d7 := cell_of_one h7; have f7 := free_of_one h7; replace h7 := Lib.hid h7; replace o7 := Lib.hid o7; replace b7 := Lib.hid b7; replace g7 := Lib.hid g7; simp only [Act.put, List.setIfInBounds_toArray, List.set_cons_zero, List.set_cons_succ]))
  go_end0
  refine ⟨rfl, A7, on + 32, c7, some ⟨gb, 0, none⟩, 32, ?_⟩
  obtain ⟨a, b, c, d, f, g, i⟩ := S6.out
  have bl : ∀ j o, w6.heap[j]? = some o → j < w.heap.size + 1 + 1 + 1 + 1 → j ≠ w.heap.size + 1 + 1 → (w7.setCell ⟨w.heap.size + 1 + 1, 0, none⟩ (.slice A7 (on + 32) c7)).heap[j]? = some o := fun j o hj hlt hne => (Below.heap_setCell _ _ _ _ hne).trans ((b7.out.block j hlt).trans hj)
  have kb : Ky (w7.setCell ⟨w.heap.size + 1 + 1, 0, none⟩ (.slice A7 (on + 32) c7)) gb m := by
    refine ⟨(Below.heap_setCell _ _ _ _ (show gb ≠ w.heap.size + 1 + 1 by omega)).trans ((g7.out.block gb (heap_lt ky6.out.1) (fun q => ?_)).trans ky6.out.1), ky6.out.2⟩
    have := (OB gb q.symm).2
    omega
  refine ⟨Ext.setCell (Below.trans a (b7.out.mono (by omega))) (show w.heap.size ≤ w.heap.size + 1 + 1 by omega) _, bl _ _ b (by omega) (by omega), bl _ _ c (by omega) (by omega), one_setCell h7.out, bl _ _ f (by omega) (by omega), ?_, kb.bs⟩
  refine Own.kept o7.out (gr_set (gr_ext (Ext.refl w7) _) 0 _) (.inr fun hq => ?_)
  have := o7.out.ge _ hq
  omega
end Go.Proofs.YthdjojindijmnaaDoor
end

section
/-
  kdf.Spread.
-/
namespace Go.Proofs.YthdjojindijmnaaDoor
open Go.ChangeShapes Go.WideShapes Go.ChangeAt Go.RowKit Go.Deep

set_option maxRecDepth 100000 in
set_option maxHeartbeats 1000000 in
theorem spread_err {ks ps : List UInt8} {m : Int} {w : World} (h : m < 0 ∨ 2000 < m) :
    Calls Tryd.prog 54 #[.agg (cellsOf ks).toArray, .string (strL ps), .int .i64 m] w (RetBsE [] 1 w) := by
  generalize (cellsOf ks).toArray = K at *
  by_cases q1 : m < 0
  · have q1' : decide (m < 0) = true := by simpa using q1
    clear h
    go_enter Tryd.func54, Tryd.ntmps54
    go_wp2_with fail
    go_ret2
    exact ⟨_, _, _, rfl, Bs.nil _, ((Ext.refl w).alloc _).alloc _⟩
  · have q1' : decide (m < 0) = false := by simpa using q1
    have q2' : decide (2000 < m) = true := decide_eq_true (by omega)
    clear h
    go_enter Tryd.func54, Tryd.ntmps54
    go_wp2_with fail
    go_ret2
    exact ⟨_, _, _, rfl, Bs.nil _, ((Ext.refl w).alloc _).alloc _⟩

theorem alloc4_0 (w : World) (o1 o2 o3 o4 : Obj) : ((((w.alloc o1).alloc o2).alloc o3).alloc o4).heap[w.heap.size]? = some o1 := by
  rw [Below.heap_alloc _ _ _ (by rw [size_alloc, size_alloc, size_alloc]; omega)]
  exact heap_alloc30 w o1 o2 o3
theorem alloc4_1 (w : World) (o1 o2 o3 o4 : Obj) : ((((w.alloc o1).alloc o2).alloc o3).alloc o4).heap[w.heap.size + 1]? = some o2 := by
  rw [Below.heap_alloc _ _ _ (by rw [size_alloc, size_alloc, size_alloc]; omega)]
  exact heap_alloc31 w o1 o2 o3
theorem alloc4_2 (w : World) (o1 o2 o3 o4 : Obj) : ((((w.alloc o1).alloc o2).alloc o3).alloc o4).heap[w.heap.size + 1 + 1]? = some o3 := by
  rw [Below.heap_alloc _ _ _ (by rw [size_alloc, size_alloc, size_alloc]; omega)]
  exact heap_alloc32 w o1 o2 o3
theorem alloc4_3 (w : World) (o1 o2 o3 o4 : Obj) : ((((w.alloc o1).alloc o2).alloc o3).alloc o4).heap[w.heap.size + 1 + 1 + 1]? = some o4 := by
  have := heap_alloc32 (w.alloc o1) o2 o3 o4
  rwa [size_alloc] at this

set_option maxRecDepth 100000 in
set_option maxHeartbeats 2000000 in
theorem spread_calls {ks ps : List UInt8} {m : Nat} {w : World} (hk : ks.length = 32) (h1 : ps.length ≤ 1000000) (hm : m ≤ 2000) {tg : TypeId × Nat × Nat} (hG : Gl w tg) :
    Calls Tryd.prog 54 #[.agg (cellsOf ks).toArray, .string (strL ps), .int .i64 (m : Int)] w (RetBsE (spreadL ks ps m) 0 w) := by
  have q1' : decide ((m : Int) < 0) = false := decide_eq_false (by omega)
  have q2' : decide ((2000 : Int) < (m : Int)) = false := decide_eq_false (by omega)
  have HG := Lib.hid hG
  clear hG
  have SP0 : Hid (Sp w ((((w.alloc (Obj.cells (cellsOf ks).toArray 23)).alloc (Obj.cells #[.string (strL ps)] 9)).alloc (Obj.cells #[.slice none 0 0] 34)).alloc (Obj.cells #[.slice none 0 0] 34)) ks ps none 0 0 [] none 0 0 []) :=
    ⟨((((Ext.refl w).alloc _).alloc _).alloc _).alloc _, alloc4_0 _ _ _ _ _, alloc4_1 _ _ _ _ _, alloc4_2 _ _ _ _ _, alloc4_3 _ _ _ _ _, Own.nil _ _, Bs.nil _⟩
  go_enter Tryd.func54, Tryd.ntmps54
  go_wp2_with fail
  go_loopw [11] (fun v wr => ∃ (i j n : Nat) (O : Option Addr) (oc : Nat) (L : Option Addr) (ln lc : Nat), v = .int .u8 (j : Int) ∧ j = i + 1 ∧ n = 32 * i ∧ n < m + 32 ∧ ln ≤ 32 ∧ Sp w wr ks ps O n oc (outL ks ps i) L ln lc (blkL ks ps i)) (fun v _ => 64 - (intOf v).toNat)
  case atStart => exact ⟨0, 1, 0, none, 0, none, 0, 0, rfl, rfl, rfl, by omega, by omega, SP0.out⟩
  case round =>
    obtain ⟨i, j, n, O, oc, L, ln, lc, rfl, hj, hn, hi, hln, sp⟩ := hrel
    clear SP0
    have cO := cell_of_one sp.2.2.2.1
    have zz := sp.size
    have hE := sp.1
    by_cases hlt : n < m
    · have CALL : Calls Tryd.prog 67 #[.int .u8 (j : Int), .pointer (some ⟨w.heap.size + 1 + 1 + 1, 0, none⟩), .pointer (some ⟨w.heap.size + 1, 0, none⟩), .pointer (some ⟨w.heap.size, 0, none⟩), .pointer (some ⟨w.heap.size + 1 + 1, 0, none⟩)] wr (SpTo w ks ps (outL ks ps (i + 1)) (blkL ks ps (i + 1))) := by
        have h9 := spr1_calls (x := UInt8.ofNat j) hk sp h1 hln (by omega) HG.out
        have hx : (UInt8.ofNat j).toNat = j := by simp; omega
        rw [hx] at h9
        rw [outL, blkL, ← hj]
        exact h9
      replace CALL := Lib.hid CALL
      clear sp
      replace hj := Lib.hid hj
      replace hn := Lib.hid hn
      have j64 : (j : Int) ≤ 64 := by have := hj.out; have := hn.out; omega
      go_wp2_with (go_at_call 67; refine CALL.out.mono ?_; rintro e w1 ⟨rfl, O1, n1, c1, L1, lc1, sp1⟩; replace sp1 := Lib.hid sp1; simp only [Act.put, List.setIfInBounds_toArray, List.set_cons_zero, List.set_cons_succ])
      refine ⟨⟨i + 1, j + 1, n1, O1, c1, L1, 32, lc1, by go_num, by have := hj.out; omega, ?_, ?_, by omega, sp1.out⟩, by have := hj.out; have := hn.out; simp [intOf]; omega⟩
      · have := sp1.out.2.2.2.2.2.1.len
        rw [outL_len] at this
        omega
      · have := sp1.out.2.2.2.2.2.1.len
        rw [outL_len] at this
        have := hn.out
        omega
    · have hS : spreadL ks ps m = (outL ks ps i).take m := by
        unfold spreadL
        rw [show (m + 31) / 32 = i by omega]
      replace hS := Lib.hid hS
      have own := sp.2.2.2.2.2.1
      have B := own.bs
      have BT := Lib.hid (B.take (k := m) (by omega))
      have n1 := B.le
      have n2 := B.cap
      rcases own.2 with ⟨hv, hn0⟩ | ⟨g, cap, cur, hv, _⟩
      · injection hv with p1 p2 p3
        subst p1 p3
        obtain rfl : n = 0 := hn0
        obtain rfl : m = 0 := by omega
        clear own sp B
        replace hn := Lib.hid hn
        replace hj := Lib.hid hj
        go_wp2_with fail
        go_ret2
        exact ⟨_, _, _, rfl, by rw [hS.out]; exact BT.out, hE⟩
      · injection hv with p1 p2 p3
        subst p1 p3
        clear own sp B
        replace hn := Lib.hid hn
        replace hj := Lib.hid hj
        go_wp2_with fail
        go_ret2
        exact ⟨_, _, _, rfl, by rw [hS.out]; exact BT.out.recap (Nat.le_refl _), hE⟩
end Go.Proofs.YthdjojindijmnaaDoor
end

section
/-
  What is known of the type of keys. No conditions.
-/
namespace Go.Proofs.YthdjojindijmnaaDoor
open Go.ChangeShapes Go.WideShapes Go.ChangeAt Go.RowKit Go.Deep

theorem infoK : (Tryd.prog.info? 23).map (fun i => (i.zero, i.size, i.bytes)) = some (some (.agg zeros32), 32, 32) := by kernel_rfl
end Go.Proofs.YthdjojindijmnaaDoor
end
