import Derived.Test.YtbnjmmefnjoofaaDoorMid
import Derived.Test.YtbnjmmefnjoofaaDoorCells
import Derived.Test.YtbnjmmefnjoofaaDoorPkP
import Derived.Test.YtbnjmmefnjoofaaDoorFillS
import Derived.Test.YtbnjmmefnjoofaaDoorOwn
import Derived.Test.YtbnjmmefnjoofaaDoorHighB
import Derived.Test.YtbnjmmefnjoofaaDoorHeadB
import Derived.Test.YtbnjmmefnjoofaaDoorSeq
section
/-
  A key is filled from a slice that is long enough. No conditions.
-/
namespace Go.Proofs.YtbnjmmefnjoofaaDoor
open Go.ChangeShapes Go.WideShapes Go.ChangeAt Go.RowKit Go.Deep
set_option maxRecDepth 100000

/-- A key is filled from a longer slice. -/
theorem upon_copy_keyK {o : Oper} {a : Act} {K : Act → World → Prop} {Q : Exit → Act → World → Prop} {W : World} {g dCap : Nat} {cur : Array Value} {t dT sT ty : TypeId} {A : Option Addr} {n c : Nat} {xs : List UInt8} (hu : Tryd.prog.underlying dT = some (.slice 5)) (hg : W.heap[g]? = some (.cells cur t (0, 0))) (h : Bs W A n c xs) (hn : 32 ≤ n) (hc : cur.size = 32)
    (H : Oper.upon Tryd.prog o a K Q (.ok (Next.value (goInt 32)) (W.setRow g (cellsOf (xs.take 32)).toArray))) :
    Oper.upon Tryd.prog o a K Q (((Builtin.copy_ #[dT, sT] ty #[.slice (some ⟨g, 0, none⟩) 32 dCap, .slice A n c]).run Tryd.prog W).andThen fun a w' => .ok (Next.value a) w') := by
  have hl := h.len
  obtain ⟨b, o', rfl, hb, hcl⟩ := h.pos (by omega)
  have hsz : (Tryd.prog.info? 5).map (·.size) = some 1 := rfl
  have hL : (cellsOf (xs.take 32)).length = 32 := by rw [cellsOf_len, List.length_take]; omega
  have hr := run_copy_row Tryd.prog W dT sT ty _ g 0 32 dCap ⟨b, o', none⟩ n c cur t (cellsOf (xs.take 32)) hu hsz hg (by rw [hL]; exact (Nat.min_eq_right hn).symm) (fun j v hv => by
    have hj : j < 32 := by
      have := (List.getElem?_eq_some_iff.1 hv).1
      rwa [hL] at this
    rw [cellsOf_get (by rw [List.length_take]; omega), bt_take hj] at hv
    injection hv with hv
    subst hv
    have : (⟨b, o', none⟩ : Addr).add j = ⟨b, o' + j, none⟩ := by unfold Addr.add; split <;> simp_all
    rw [this]
    exact hcl j (by omega)) (by rw [hL]; omega) (fun v hv => by
    obtain ⟨j, _, rfl⟩ := List.mem_map.1 hv
    rfl)
  have he : (cur.toList.take 0 ++ cellsOf (xs.take 32) ++ cur.toList.drop (0 + (cellsOf (xs.take 32)).length)) = cellsOf (xs.take 32) := by
    rw [hL, List.drop_of_length_le (by simp [hc])]; simp
  rw [he, hL] at hr
  rw [hr]
  exact H

end Go.Proofs.YtbnjmmefnjoofaaDoor
end

section
/-
  Results that are two keys; regions in which two blocks turn.
-/
namespace Go.Proofs.YtbnjmmefnjoofaaDoor
open Go.ChangeShapes Go.WideShapes Go.ChangeAt Go.RowKit Go.Deep

theorem results_rr {P : Program} {fn : Func} {p q : Tmp} {ty : TypeId} (h : fn.results = #[.cell p ty, .cell q ty]) (tmps : Array Value) (w : World) (g g' : Nat) (t t' : TypeId) (cs cs' : Array Value) (fr fr' : Nat × Nat) (d : TypeDesc)
    (hp : tmps.getD p undef = .pointer (some ⟨g, 0, none⟩)) (hq : tmps.getD q undef = .pointer (some ⟨g', 0, none⟩)) (hg : w.heap[g]? = some (.cells cs t fr)) (hg' : w.heap[g']? = some (.cells cs' t' fr'))
    (hu : P.underlying ty = some d) (hd : (match d with | .struct _ | .array _ _ => true | _ => false) = true) (hi : (P.info? ty).map (·.size) = some cs.size) (hi' : (P.info? ty).map (·.size) = some cs'.size) :
    (results fn tmps).run P w = .ok (.tuple #[.agg cs, .agg cs']) w := by
  have hp' : tmps[p]?.getD undef = .pointer (some ⟨g, 0, none⟩) := by simpa using hp
  have hq' : tmps[q]?.getD undef = .pointer (some ⟨g', 0, none⟩) := by simpa using hq
  simp [results, h, hp', hq', asAddr, run_loadVar_row w g t ty cs fr d hg hu hd hi, run_loadVar_row w g' t' ty cs' fr' d hg' hu hd hi', Sem.run_bind, Result.andThen]
theorem results_trt {P : Program} {fn : Func} {u p v : Tmp} {ty : TypeId} (h : fn.results = #[.tmp u, .cell p ty, .tmp v]) (tmps : Array Value) (w : World) (g : Nat) (t : TypeId) (cs : Array Value) (fr : Nat × Nat) (d : TypeDesc) (x y : Value)
    (hx : tmps.getD u undef = x) (hp : tmps.getD p undef = .pointer (some ⟨g, 0, none⟩)) (hy : tmps.getD v undef = y) (hg : w.heap[g]? = some (.cells cs t fr))
    (hu : P.underlying ty = some d) (hd : (match d with | .struct _ | .array _ _ => true | _ => false) = true) (hi : (P.info? ty).map (·.size) = some cs.size) :
    (results fn tmps).run P w = .ok (.tuple #[x, .agg cs, y]) w := by
  have hp' : tmps[p]?.getD undef = .pointer (some ⟨g, 0, none⟩) := by simpa using hp
  have hx' : tmps[u]?.getD undef = x := by simpa using hx
  have hy' : tmps[v]?.getD undef = y := by simpa using hy
  simp [results, h, hp', hx', hy', asAddr, run_loadVar_row w g t ty cs fr d hg hu hd hi, Sem.run_bind, Result.andThen]

/-- Only blocks g and g' turn. -/
def Two (g g' : Nat) (a b : World) : Prop := b.os = a.os ∧ b.tape = a.tape ∧ b.output = a.output ∧ a.heap.size ≤ b.heap.size ∧ ∀ i, i < a.heap.size → i ≠ g → i ≠ g' → b.heap[i]? = a.heap[i]?
theorem Two.refl (g g' : Nat) (w : World) : Two g g' w w := ⟨rfl, rfl, rfl, Nat.le_refl _, fun _ _ _ _ => rfl⟩
theorem Two.trans {g g' : Nat} {a b c : World} (h : Two g g' a b) (k : Two g g' b c) : Two g g' a c :=
  ⟨k.1.trans h.1, k.2.1.trans h.2.1, k.2.2.1.trans h.2.2.1, Nat.le_trans h.2.2.2.1 k.2.2.2.1, fun i hi h1 h2 => (k.2.2.2.2 i (Nat.lt_of_lt_of_le hi h.2.2.2.1) h1 h2).trans (h.2.2.2.2 i hi h1 h2)⟩
theorem Two.of_ext {g g' : Nat} {a b : World} (h : Ext a b) : Two g g' a b := ⟨h.os, h.tape, h.output, h.size, fun i hi _ _ => h.block i hi⟩
theorem Two.row {g g' : Nat} (w : World) (C : Array Value) : Two g g' w (w.setRow g C) := ⟨rfl, rfl, rfl, by simp, fun i _ h1 _ => setRow_other _ _ _ _ h1⟩
theorem Two.row' {g g' : Nat} (w : World) (C : Array Value) : Two g g' w (w.setRow g' C) := ⟨rfl, rfl, rfl, by simp, fun i _ _ h1 => setRow_other _ _ _ _ h1⟩
theorem Two.ext {g g' : Nat} {w0 a b : World} (h : Ext w0 a) (k : Two g g' a b) (h1 : w0.heap.size ≤ g) (h2 : w0.heap.size ≤ g') : Ext w0 b :=
  Below.trans h ⟨k.1, k.2.1, k.2.2.1, k.2.2.2.1, fun i hi => k.2.2.2.2 i (Nat.lt_of_lt_of_le hi h.size) (by omega) (by omega)⟩
theorem Two.block {g g' i : Nat} {a b : World} (k : Two g g' a b) {o : Obj} (h : a.heap[i]? = some o) (h1 : i ≠ g) (h2 : i ≠ g') : b.heap[i]? = some o := (k.2.2.2.2 i (heap_lt h) h1 h2).trans h
end Go.Proofs.YtbnjmmefnjoofaaDoor
end

section
/-
  mailbox.copied: an envelope with bytes of its own.
-/
namespace Go.Proofs.YtbnjmmefnjoofaaDoor
open Go.ChangeShapes Go.WideShapes Go.ChangeAt Go.RowKit Go.Deep
set_option maxRecDepth 100000

def zWm : Wm := ⟨⟨0, 0, 0, List.replicate 32 0, List.replicate 32 0, 0, 0, [], 0, 0, 0, 0, List.replicate 32 0, List.replicate 32 0⟩, none, 0⟩
def zM : List Value := zWm.C
theorem zM_len : zM.length = 138 := by kernel_rfl
theorem mail_alloc (w : World) : (zeroValue 73).run Tryd.prog w = .ok (.agg zM.toArray) w := by kernel_rfl
theorem splice_all {α : Type} {x y : List α} (h : x.length = y.length) : splice x 0 y = y := by
  unfold splice
  rw [List.take_zero, List.nil_append, Nat.zero_add, ← h, List.drop_length, List.append_nil]
theorem bsF_cells {w : World} {g n : Nat} {xs : List UInt8} {B : Nat} (h : w.heap[g]? = some (.cells (cellsOf xs).toArray 5 (0, 0))) (hl : xs.length = n) (hn : n ≤ 1000000) (hB : B ≤ g) : BsF B w (some ⟨g, 0, none⟩) n n xs :=
  ⟨⟨hl, Nat.le_refl _, by unfold maxLen; omega, fun _ => ⟨g, 0, rfl, heap_lt h, fun j hj => by
    rw [cell_of_row w g _ _ _ _ h, List.getElem?_toArray, Nat.zero_add, cellsOf_get (by omega)]⟩⟩, fun _ q hq => by cases hq; exact ⟨hB, _, h⟩⟩
set_option maxHeartbeats 4000000 in
theorem copied_calls {w : World} {x : Wm} (hx : x.d.ok) (hb : Bs w x.A x.d.body.length x.c x.d.body) :
    Calls Tryd.prog 62 #[.agg x.C.toArray] w fun e w' => ∃ A c, e = .returned (.agg (⟨x.d, A, c⟩ : Wm).C.toArray) ∧ BsF w.heap.size w' A x.d.body.length c x.d.body ∧ Ext w w' := by
  have hal := mail_alloc
  have L_z := zM_len
  have L_C := x.C_len hx
  have O_C : Hid (∀ A c, ∀ v ∈ (⟨x.d, A, c⟩ : Wm).C, v.oneCell' = true) := fun A c => Wm.one _
  have G69 : Hid (x.C[69]? = some (.slice x.A x.d.body.length x.c)) := Wm.c69 hx
  have S69 : Hid (∀ A c, x.C.set 69 (.slice A x.d.body.length c) = (⟨x.d, A, c⟩ : Wm).C) := fun A c => Wm.set69 hx A c
  have L_D : Hid (∀ A c, (⟨x.d, A, c⟩ : Wm).C.length = 138) := fun A c => Wm.C_len (x := ⟨x.d, A, c⟩) hx
  have hn : x.d.body.length ≤ 1000 := hx.2.2
  generalize x.C = CX at *
  generalize hF : (fun (A : Option Addr) (c : Nat) => (⟨x.d, A, c⟩ : Wm).C) = F at *
  have hF' : ∀ A c, (⟨x.d, A, c⟩ : Wm).C = F A c := fun A c => by rw [← hF]
  simp only [hF'] at O_C S69 L_D ⊢
  clear hF hF' hx
  have hmk := make8 x.d.body.length (by omega)
  have q1 := hb.le
  have q2 := hb.cap
  replace hb := Lib.hid hb
  generalize hn' : x.d.body.length = n at *
  generalize x.d.body = body at *
  replace hn' := Lib.hid hn'.symm
  generalize x.A = A at *
  generalize x.c = c at *
  clear x
  generalize zM = Z at *
  obtain ⟨r, hr⟩ : ∃ r, r = w.heap.size := ⟨_, rfl⟩
  have B0 : Hid (Cb ((w.alloc (Obj.cells CX.toArray 73)).alloc (Obj.cells Z.toArray 73)) r 73 CX ∧ Cb ((w.alloc (Obj.cells CX.toArray 73)).alloc (Obj.cells Z.toArray 73)) (r + 1) 73 Z ∧ Ext w ((w.alloc (Obj.cells CX.toArray 73)).alloc (Obj.cells Z.toArray 73))) := by
    rw [hr]; exact ⟨heap_alloc1 _ _ _, heap_alloc2 _ _ _, ((Ext.refl w).alloc _).alloc _⟩
  go_enter Tryd.func62, Tryd.ntmps62
  go_upto_region 1 with fail
  refine wp_gen (fun W => Cb W r 73 CX ∧ Cb W (r + 1) 73 Z ∧ Ext w W) B0.out ?_
  rw [← hr]
  have wr : w.heap.size ≤ r := Nat.le_of_eq hr.symm
  clear B0
  replace hr := Lib.hid hr
  rintro w0 ⟨k0, k1, x0⟩
  have b0 := k0.cell G69.out
  have B1 : Hid (Cb (w0.alloc (.cells (madeCells #[.int .u8 0] n) 5)) r 73 CX ∧ Cb (w0.alloc (.cells (madeCells #[.int .u8 0] n) 5)) (r + 1) 73 Z ∧ Cb (w0.alloc (.cells (madeCells #[.int .u8 0] n) 5)) w0.heap.size 5 (madeCells #[.int .u8 0] n).toList ∧ Ext w (w0.alloc (.cells (madeCells #[.int .u8 0] n) 5))) :=
    ⟨k0.ext ((Ext.refl w0).alloc _), k1.ext ((Ext.refl w0).alloc _), by unfold Cb; rw [Array.toArray_toList]; exact heap_alloc_new _ _, x0.alloc _⟩
  have rs : r + 1 < w0.heap.size := k1.lt
  clear k0 k1 x0
  go_upto_region 2 with fail
  refine wp_gen (fun W => Cb W r 73 CX ∧ Cb W (r + 1) 73 Z ∧ Cb W w0.heap.size 5 (madeCells #[.int .u8 0] n).toList ∧ Ext w W) B1.out ?_
  generalize w0.heap.size = s at *
  clear b0 B1 w0
  have L_m : (madeCells #[.int .u8 0] n).toList.length = n := by simp [madeCells]
  generalize (madeCells #[.int .u8 0] n).toList = M at *
  rintro w1 ⟨k0, k1, k2, x1⟩
  have b0 := k0.cell G69.out
  replace k0 := Lib.hid k0
  replace k1 := Lib.hid k1
  replace k2 := Lib.hid k2
  replace x1 := Lib.hid x1
  go_wp2_with fail
  refine upon_copy (cur := M) rfl k2.out (hb.out.ext x1.out) (Nat.le_refl _) (by omega) ?_
  intro w2 h1 h2
  rw [splice_all (by rw [cellsOf_len, L_m]; exact hn'.out)] at h1
  have K2 : Hid (Cb w2 r 73 CX ∧ Cb w2 (r + 1) 73 Z ∧ Cb w2 s 5 (cellsOf body) ∧ Ext w w2) := ⟨((h2.out s (Nat.le_refl _)).block _ (by omega)).trans k0.out, ((h2.out s (Nat.le_refl _)).block _ (by omega)).trans k1.out, h1.out, Below.trans x1.out (h2.out _ (by omega))⟩
  clear k0 k1 k2 x1 h1 h2 b0
  obtain ⟨k0, k1, k2, x2⟩ := K2.out
  clear K2
  have b0 := k0.cell G69.out
  have f0 := k0.frozen 69
  have K3 : Hid (Cb (w2.setCell ⟨r, 69, none⟩ (.slice (some ⟨s, 0, none⟩) n n)) r 73 (F (some ⟨s, 0, none⟩) n) ∧ Cb (w2.setCell ⟨r, 69, none⟩ (.slice (some ⟨s, 0, none⟩) n n)) (r + 1) 73 Z ∧ Cb (w2.setCell ⟨r, 69, none⟩ (.slice (some ⟨s, 0, none⟩) n n)) s 5 (cellsOf body) ∧ Ext w (w2.setCell ⟨r, 69, none⟩ (.slice (some ⟨s, 0, none⟩) n n))) := by
    refine ⟨?_, (Below.heap_setCell _ _ _ _ (show r + 1 ≠ r by omega)).trans k1, (Below.heap_setCell _ _ _ _ (show s ≠ r by omega)).trans k2, x2.setCell wr _⟩
    rw [← S69.out]
    exact k0.setCell
  clear k0 k1 k2 x2
  go_upto_region 4 with fail
  refine wp_gen (fun W => Cb W r 73 (F (some ⟨s, 0, none⟩) n) ∧ Cb W (r + 1) 73 Z ∧ Cb W s 5 (cellsOf body) ∧ Ext w W) K3.out ?_
  clear K3 b0 f0 w2
  rintro w3 ⟨k0, k1, k2, x3⟩
  have L_E := L_D.out (some ⟨s, 0, none⟩) n
  have O_E := one_cells (O_C.out (some ⟨s, 0, none⟩) n)
  have fin : Hid (BsF w.heap.size (w3.setRow (r + 1) (F (some ⟨s, 0, none⟩) n).toArray) (some ⟨s, 0, none⟩) n n body ∧ Ext w (w3.setRow (r + 1) (F (some ⟨s, 0, none⟩) n).toArray)) := ⟨bsF_cells (k2.row (by omega)) hn'.out.symm (by omega) (by omega), below_setRow x3 (by omega) _⟩
  have fin0 : Hid (∀ E, E = F (some ⟨s, 0, none⟩) n → ∃ A c, Ending.returned (.agg E.toArray) = .returned (.agg (F A c).toArray) ∧ BsF w.heap.size (w3.setRow (r + 1) E.toArray) A n c body ∧ Ext w (w3.setRow (r + 1) E.toArray)) := fun E q => by subst q; exact ⟨_, _, rfl, fin.out.1, fin.out.2⟩
  clear fin x3 k2 O_C L_D S69 G69
  generalize F (some ⟨s, 0, none⟩) n = E at *
  replace fin0 := Lib.hid (fin0.out E rfl)
  replace k0 := Lib.hid k0
  replace k1 := Lib.hid k1
  have S_E : E.toArray.size = 138 := by rw [List.size_toArray]; exact L_E
  have S_Z : Z.toArray.size = 138 := by rw [List.size_toArray]; exact L_z
  go_wp2_with (first
    | (refine wpList_load_row rfl 73 _ rfl r rfl 73 E.toArray (0, 0) _ k0.out rfl rfl (by rw [S_E]; rfl) ?_; go_frame)
    | (refine wpList_store_row rfl 73 _ _ rfl (r + 1) E.toArray rfl rfl 73 Z.toArray k1.out (by rw [S_E]; rfl) (by rw [S_E, S_Z]) O_E ?_; simp only [Act.put]))
  (try simp only [Exit.inBlock, Exit.then])
  refine bodyPost_ret (results_cell_row rfl _ _ (r + 1) 73 E.toArray (0, 0) _ rfl (setRow_heap _ _ _ _ _ _ k1.out) rfl rfl (by rw [S_E]; rfl)) rfl ?_
  exact fin0.out
end Go.Proofs.YtbnjmmefnjoofaaDoor
end

section
/-
  Slices whose elements have several cells: read. No conditions.
-/
namespace Go.Proofs.YtbnjmmefnjoofaaDoor
open Go.ChangeShapes Go.WideShapes Go.ChangeAt Go.RowKit Go.Deep
set_option maxRecDepth 100000

/-- The slice reads as elements with the cells of K, s each. -/
def Cs (w : World) (s : Nat) (A : Option Addr) (n c : Nat) (K : List (List Value)) : Prop :=
  (K.length = n ∧ (∀ x ∈ K, x.length = s)) ∧ (n ≤ c ∧ c ≤ maxLen) ∧ (0 < n → ∃ b off, A = some ⟨b, off, none⟩ ∧ b < w.heap.size ∧ ∀ q v, K.flatten[q]? = some v → w.cell? ⟨b, off + q, none⟩ = some v)
section
variable {w w' : World} {s : Nat} {A : Option Addr} {n c : Nat} {K : List (List Value)}
theorem Cs.ext (h : Cs w s A n c K) (e : Ext w w') : Cs w' s A n c K := ⟨h.1, h.2.1, fun h0 => by
  obtain ⟨b, off, hA, hb, hc⟩ := h.2.2 h0
  exact ⟨b, off, hA, Nat.lt_of_lt_of_le hb e.size, fun q v hq => (e.cell hb).trans (hc q v hq)⟩⟩
theorem flatten_len {α : Type} {s : Nat} : ∀ {L : List (List α)}, (∀ x ∈ L, x.length = s) → L.flatten.length = L.length * s
  | [], _ => by simp
  | x :: L, h => by
    rw [List.flatten_cons, List.length_append, h x (List.mem_cons_self ..), flatten_len fun y hy => h y (List.mem_cons_of_mem _ hy), List.length_cons, Nat.add_mul]
    omega
theorem OwnC.cs {B : Nat} {e : TypeId} (h : OwnC B w e s A n c K) : Cs w s A n c K := by
  refine ⟨⟨h.2.2, h.2.1⟩, h.cap, fun h0 => ?_⟩
  obtain ⟨b, hA, hb, _, hc⟩ := h.cells h0
  exact ⟨b, 0, hA, hb, fun q v hq => by rw [Nat.zero_add]; exact hc q v hq⟩
/-- Cell i of element j. -/
theorem Cs.at (h : Cs w s A n c K) {j : Nat} (hj : j < n) : ∃ b off, A = some ⟨b, off, none⟩ ∧ b < w.heap.size ∧ ∀ i v, (K.getD j [])[i]? = some v → w.cell? ⟨b, off + j * s + i, none⟩ = some v := by
  obtain ⟨b, off, hA, hb, hc⟩ := h.2.2 (by omega)
  refine ⟨b, off, hA, hb, fun i v hi => ?_⟩
  have hl : (K.getD j []).length = s := by
    have q : j < K.length := by rw [h.1.1]; exact hj
    rw [List.getD_eq_getElem?_getD, List.getElem?_eq_getElem q]
    exact h.1.2 _ (List.getElem_mem q)
  have his : i < s := by rw [← hl]; exact (List.getElem?_eq_some_iff.1 hi).1
  rw [Nat.add_assoc]
  exact hc _ _ ((flat_at h.1.2 (by rw [h.1.1]; exact hj) his).trans hi)
theorem Cs.take (h : Cs w s A n c K) {k : Nat} (hk : k ≤ n) : Cs w s A k c (K.take k) := by
  have h2 := h.2.1
  refine ⟨⟨by rw [List.length_take, h.1.1]; omega, fun x hx => h.1.2 x (List.mem_of_mem_take hx)⟩, ⟨by omega, h2.2⟩, fun h0 => ?_⟩
  obtain ⟨b, off, hA, hb, hc⟩ := h.2.2 (by omega)
  refine ⟨b, off, hA, hb, fun q v hq => hc q v ?_⟩
  have e : K.flatten = (K.take k).flatten ++ (K.drop k).flatten := by rw [← List.flatten_append, List.take_append_drop]
  rw [e, List.getElem?_append_left (List.getElem?_eq_some_iff.1 hq).1]
  exact hq
end
end Go.Proofs.YtbnjmmefnjoofaaDoor
end

section
/-
  Slices whose elements have several cells: cut, appended. No conditions.
-/
namespace Go.Proofs.YtbnjmmefnjoofaaDoor
open Go.ChangeShapes Go.WideShapes Go.ChangeAt Go.RowKit Go.Deep
set_option maxRecDepth 100000

section
variable {w w' : World} {s : Nat} {A : Option Addr} {n c : Nat} {K : List (List Value)}
theorem add_at {b off k : Nat} : (some (⟨b, off, none⟩ : Addr)).map (·.add k) = some ⟨b, off + k, none⟩ := by
  by_cases hk0 : k = 0
  · subst hk0; simp [Addr.add]
  · simp [Addr.add, hk0]
theorem Cs.cut (h : Cs w s A n c K) {k : Nat} (hk : k ≤ n) : Cs w s (if c = k then A else A.map (·.add (k * s))) (n - k) (c - k) (K.drop k) := by
  have h2 := h.2.1
  refine ⟨⟨by rw [List.length_drop, h.1.1], fun x hx => h.1.2 x (List.mem_of_mem_drop hx)⟩, ⟨by omega, by omega⟩, fun h0 => ?_⟩
  obtain ⟨b, off, rfl, hb, hc⟩ := h.2.2 (by omega)
  rw [if_neg (by omega)]
  refine ⟨b, off + k * s, add_at, hb, fun q v hq => ?_⟩
  rw [Nat.add_assoc]
  refine hc _ v ?_
  have e : K.flatten = (K.take k).flatten ++ (K.drop k).flatten := by rw [← List.flatten_append, List.take_append_drop]
  have l : (K.take k).flatten.length = k * s := by rw [flatten_len fun x hx => h.1.2 x (List.mem_of_mem_take hx), List.length_take, h.1.1, Nat.min_eq_left hk]
  rw [e, List.getElem?_append_right (by omega), l, Nat.add_sub_cancel_left]
  exact hq
end
theorem append_cc {P : Program} {w : World} {B : Nat} {t e ty : TypeId} {s bytes : Nat} {z : Value} (ht : P.underlying t = some (.slice e)) (hinfo : (P.info? e).map (fun i => (i.zero, i.size, i.bytes)) = some (some z, s, bytes)) (hzs : z.cells.size = s) (s0 : 0 < s) (hbytes : bytes ≤ 1000000)
    {A A' : Option Addr} {n c m c' : Nat} {L K : List (List Value)} (h : OwnC B w e s A n c L) (hr : Cs w s A' m c' K) (h1 : ∀ x ∈ K, ∀ u ∈ x, u.oneCell' = true) (hm : n + m ≤ 1000) (hB : B ≤ w.heap.size) :
    ∃ A'' c'' w', (Builtin.append_ #[t, t] ty #[.slice A n c, .slice A' m c']).run P w = .ok (.slice A'' (n + m) c'') w' ∧ OwnC B w' e s A'' (n + m) c'' (L ++ K) ∧ w.grownBy w' (Value.ownBlock (.slice A n c)) ∧ (Value.ownBlock (.slice A'' (n + m) c'') = Value.ownBlock (.slice A n c) ∨ Value.ownBlock (.slice A'' (n + m) c'') = some w.heap.size) := by
  obtain ⟨i, hi, hz0, hz1, hz2⟩ := info_parts hinfo
  have hl2 : (∀ x ∈ L ++ K, x.length = s) ∧ (L ++ K).length = n + m := ⟨fun x hx => by
    rcases List.mem_append.1 hx with q | q
    · exact h.2.1 x q
    · exact hr.1.2 x q, by rw [List.length_append, h.2.2, hr.1.1]⟩
  rcases A' with _ | a
  · have hm0 : m = 0 := by
      rcases Nat.eq_zero_or_pos m with h0 | h0
      · exact h0
      · obtain ⟨b, off, e, _⟩ := hr.2.2 h0
        cases e
    subst hm0
    have hK : K = [] := List.eq_nil_of_length_eq_zero hr.1.1
    subst hK
    refine ⟨A, c, w, ?_, by simpa using h, ⟨rfl, rfl, rfl, Nat.le_refl _, fun _ _ _ => rfl⟩, .inl rfl⟩
    rcases h.1.2 with ⟨hv, hn⟩ | ⟨g, cap, cur, hv, _, _, hnc, _⟩
    · rw [hv]
      subst hn
      injection hv with _ _ h3
      subst h3
      simp [Builtin.append_, run_underlying ht, sizeOf, typeInfo, hi, Builtin.lenOf, Builtin.firstCells]
      exact Eq.symm ‹A = none›
    · rw [hv]
      injection hv with _ _ h3
      subst h3
      simp [Builtin.append_, run_underlying ht, sizeOf, typeInfo, hi, Builtin.lenOf, Builtin.firstCells, hnc, storeCells]
      exact Eq.symm ‹A = some _›
  · obtain ⟨v', w', hrun, hown, hgr, _, how⟩ := run_append_own_at (P := P) w B t ty e i z s bytes ht hi hz0 hz1 hz2 hzs s0 (.slice A n c) n L.flatten h.1 a m c' K.flatten (by rw [flatten_len hr.1.2, hr.1.1]) (fun j u hu => by
      have h0 : 0 < m := by
        rcases Nat.eq_zero_or_pos m with q | q
        · rw [List.eq_nil_of_length_eq_zero (hr.1.1.trans q)] at hu; simp at hu
        · exact q
      obtain ⟨b, off, e1, hb, hc⟩ := hr.2.2 h0
      injection e1 with e1
      subst e1
      have hadd : (⟨b, off, none⟩ : Addr).add j = ⟨b, off + j, none⟩ := by unfold Addr.add; split <;> simp_all
      rw [hadd]
      exact hc j u hu) (fun u hu => by
      obtain ⟨x, hx, hux⟩ := List.mem_flatten.1 hu
      exact h1 x hx u hux) (by unfold maxLen; omega) (by
      have : (n + m) * bytes ≤ 1000 * 1000000 := Nat.mul_le_mul (by omega) hbytes
      omega) hB
    rw [← List.flatten_append] at hown
    have hform : ∃ A'' c'', v' = .slice A'' (n + m) c'' := by
      rcases hown.2 with ⟨hv, hn⟩ | ⟨g', cap, cur, hv, _⟩
      · exact ⟨none, 0, by rw [hv, hn]⟩
      · exact ⟨_, _, hv⟩
    obtain ⟨A'', c'', rfl⟩ := hform
    exact ⟨A'', c'', w', hrun, ⟨hown, hl2⟩, hgr, how⟩
theorem wp_append_cc {P : Program} {w : World} {o : Oper} {a : Act} {H : Act → World → Prop} {Q : Exit → Act → World → Prop} {B : Nat} {t e : TypeId} {s bytes : Nat} {z : Value} (ht : P.underlying t = some (.slice e)) (hinfo : (P.info? e).map (fun i => (i.zero, i.size, i.bytes)) = some (some z, s, bytes)) (hzs : z.cells.size = s) (s0 : 0 < s) (hbytes : bytes ≤ 1000000)
    {A A' : Option Addr} {n c m c' : Nat} {L K : List (List Value)} {x y : Operand} (ho : o.op = .call { callee := .builtin .append, args := #[x, y], argTypes := #[t, t] }) (hx : a.eval x = .slice A n c) (hy : a.eval y = .slice A' m c')
    (h : OwnC B w e s A n c L) (hr : Cs w s A' m c' K) (h1 : ∀ x ∈ K, ∀ u ∈ x, u.oneCell' = true) (hm : n + m ≤ 1000) (hB : B ≤ w.heap.size)
    (hK : ∀ A'' c'' w', OwnC B w' e s A'' (n + m) c'' (L ++ K) → w.grownBy w' (Value.ownBlock (.slice A n c)) → Below B w w' → H (a.put o.dst (.slice A'' (n + m) c'')) w') : o.wp P a w H Q := by
  obtain ⟨A'', c'', w', hrun, h2, h3, _⟩ := append_cc (ty := o.type) ht hinfo hzs s0 hbytes h hr h1 hm hB
  unfold Oper.wp execOp
  simp only [ho, resolve, invoke, builtin, Sem.run_bind, Sem.run_pure, Result.andThen_ok, List.map_toArray, List.map_cons, List.map_nil, hx, hy, hrun]
  exact hK A'' c'' w' h2 h3 ((Below.refl B w).grown h3 hB h.ge)
theorem wp_append_cc2 {P : Program} {w : World} {o : Oper} {a : Act} {H : Act → World → Prop} {Q : Exit → Act → World → Prop} {B : Nat} {t e : TypeId} {s bytes : Nat} {z : Value} (ht : P.underlying t = some (.slice e)) (hinfo : (P.info? e).map (fun i => (i.zero, i.size, i.bytes)) = some (some z, s, bytes)) (hzs : z.cells.size = s) (s0 : 0 < s) (hbytes : bytes ≤ 1000000)
    {A A' : Option Addr} {n c m c' : Nat} {L K : List (List Value)} {x y : Operand} (ho : o.op = .call { callee := .builtin .append, args := #[x, y], argTypes := #[t, t] }) (hx : a.eval x = .slice A n c) (hy : a.eval y = .slice A' m c')
    (h : OwnC B w e s A n c L) (hr : Cs w s A' m c' K) (h1 : ∀ x ∈ K, ∀ u ∈ x, u.oneCell' = true) (hm : n + m ≤ 1000) (hB : B ≤ w.heap.size)
    (hK : ∀ A'' c'' w', OwnC B w' e s A'' (n + m) c'' (L ++ K) → w.grownBy w' (Value.ownBlock (.slice A n c)) → Below B w w' → (Value.ownBlock (.slice A'' (n + m) c'') = Value.ownBlock (.slice A n c) ∨ Value.ownBlock (.slice A'' (n + m) c'') = some w.heap.size) → H (a.put o.dst (.slice A'' (n + m) c'')) w') : o.wp P a w H Q := by
  obtain ⟨A'', c'', w', hrun, h2, h3, h4⟩ := append_cc (ty := o.type) ht hinfo hzs s0 hbytes h hr h1 hm hB
  unfold Oper.wp execOp
  simp only [ho, resolve, invoke, builtin, Sem.run_bind, Sem.run_pure, Result.andThen_ok, List.map_toArray, List.map_cons, List.map_nil, hx, hy, hrun]
  exact hK A'' c'' w' h2 h3 ((Below.refl B w).grown h3 hB h.ge) h4
theorem wpList_append_cc {P : Program} {w : World} {ops : Array Oper} {rest : List Oper} {o : Oper} {a : Act} {Q : Exit → Act → World → Prop} (hgd : o.guard = none) {B : Nat} {t e : TypeId} {s bytes : Nat} {z : Value} (ht : P.underlying t = some (.slice e)) (hinfo : (P.info? e).map (fun i => (i.zero, i.size, i.bytes)) = some (some z, s, bytes)) (hzs : z.cells.size = s) (s0 : 0 < s) (hbytes : bytes ≤ 1000000)
    {A A' : Option Addr} {n c m c' : Nat} {L K : List (List Value)} {x y : Operand} (ho : o.op = .call { callee := .builtin .append, args := #[x, y], argTypes := #[t, t] }) (hx : a.eval x = .slice A n c) (hy : a.eval y = .slice A' m c')
    (h : OwnC B w e s A n c L) (hr : Cs w s A' m c' K) (h1 : ∀ x ∈ K, ∀ u ∈ x, u.oneCell' = true) (hm : n + m ≤ 1000) (hB : B ≤ w.heap.size)
    (hK : ∀ A'' c'' w', OwnC B w' e s A'' (n + m) c'' (L ++ K) → w.grownBy w' (Value.ownBlock (.slice A n c)) → Below B w w' → wpList P ops Q rest (a.put o.dst (.slice A'' (n + m) c'')) w') : wpList P ops Q (o :: rest) a w :=
  wpList_plain hgd fun _ hK' => wp_append_cc ht hinfo hzs s0 hbytes ho hx hy h hr h1 hm hB fun A'' c'' w' h2 h3 h4 => hK' _ _ (hK A'' c'' w' h2 h3 h4)
/-- A slice of one element that is laid. -/
theorem cs_one {w : World} {g : Nat} {T : TypeId} {L : List Value} (h : Cb w g T L) : Cs w L.length (some ⟨g, 0, none⟩) 1 1 [L] :=
  ⟨⟨rfl, fun x hx => by rw [List.mem_singleton.1 hx]⟩, ⟨Nat.le_refl _, by unfold maxLen; omega⟩, fun _ => ⟨g, 0, rfl, h.lt, fun q v hq => by
    rw [Nat.zero_add]
    exact h.cell (by simpa using hq)⟩⟩
theorem wp_slice_c {P : Program} {w : World} {o : Oper} {a : Act} {H : Act → World → Prop} {Q : Exit → Act → World → Prop} {t e : TypeId} {s bytes : Nat} {z : Value} (ht : P.underlying t = some (.slice e)) (hinfo : (P.info? e).map (fun i => (i.zero, i.size, i.bytes)) = some (some z, s, bytes)) (hzs : z.cells.size = s) (s0 : 0 < s) (s1 : s ≤ 1000000)
    {cs : List Value} {x : Operand} (hk : cs.length = s)
    (ho : o.op = .buildSlice t 1 #[(0, x)]) (hx : (a.eval x).cells = cs.toArray)
    (h : H (a.put o.dst (.slice (some ⟨w.heap.size, 0, none⟩) 1 1)) (w.alloc (.cells cs.toArray e))) : o.wp P a w H Q := by
  obtain ⟨i, hi, hz0, hz1, hz2⟩ := info_parts hinfo
  have hfill := Great.fill_whole (s := s) s0 [a.eval x] ((Array.range (1 * s)).map (z.cells[· % z.cells.size]!)) (fun v hv => by
    simp only [List.mem_singleton] at hv
    subst hv
    rw [hx]
    simpa using hk) (by simp)
  simp only [List.zipIdx_cons, List.zipIdx_nil, List.map_cons, List.map_nil, List.flatMap_cons, List.flatMap_nil, List.append_nil, hx] at hfill
  refine wp_buildSlice t e 1 _ ho cs.toArray i _ ht hi hz0 (by rw [hz1]; omega) (by rw [hz1]; omega) ?_ h
  rw [hz1]
  simp only [List.map_toArray, List.map_cons, List.map_nil]
  exact hfill

/-- 's[k:]', 's[:k]'. -/
theorem exec_fromC {w : World} {t e : TypeId} {s : Nat} (ht : Tryd.prog.underlying t = some (.slice e)) (hs : (Tryd.prog.info? e).map (·.size) = some s) {o : Oper} {a : Act} {x lo : Operand} {A : Option Addr} {n c k : Nat} {kd : IntKind} (ho : o.op = .slice t x (some lo) none none) (hx : a.eval x = .slice A n c) (hl : a.eval lo = .int kd (k : Int)) (hk : k ≤ n) (hnc : n ≤ c) :
    (execOp a.eval o).run Tryd.prog w = .ok (.value (.slice (if c = k then A else A.map (·.add (k * s))) (n - k) (c - k))) w := by
  obtain ⟨dst, op, ty, pos, af, gd⟩ := o
  simp only at ho
  subst ho
  obtain ⟨i, hi', hsz⟩ := Option.map_eq_some_iff.1 hs
  have q1 : (k : Int) ≤ (n : Int) := by omega
  simp only [execOp, hx, hl, Option.map, Instr.sliceAt]
  go_simp
  simp [Instr.slice, run_underlying ht, Instr.sliceBounds, Instr.sliceBound, asIntOf, sizeOf, typeInfo, hi', hsz]
  rw [if_pos hk]
  cases A <;> rfl
theorem exec_toC {w : World} {t e : TypeId} {s : Nat} (ht : Tryd.prog.underlying t = some (.slice e)) (hs : (Tryd.prog.info? e).map (·.size) = some s) {o : Oper} {a : Act} {x hi : Operand} {A : Option Addr} {n c k : Nat} {kd : IntKind} (ho : o.op = .slice t x none (some hi) none) (hx : a.eval x = .slice A n c) (hl : a.eval hi = .int kd (k : Int)) (hk : k ≤ c) :
    (execOp a.eval o).run Tryd.prog w = .ok (.value (.slice A k c)) w := by
  obtain ⟨dst, op, ty, pos, af, gd⟩ := o
  simp only at ho
  subst ho
  obtain ⟨i, hi', hsz⟩ := Option.map_eq_some_iff.1 hs
  have q1 : (k : Int) ≤ (c : Int) := by omega
  have q2 : (if c = 0 then A else A.map (·.add 0)) = A := by
    split
    · rfl
    · cases A <;> simp [Addr.add]
  simp only [execOp, hx, hl, Option.map, Instr.sliceAt]
  go_simp
  simp [Instr.slice, run_underlying ht, Instr.sliceBounds, Instr.sliceBound, asIntOf, sizeOf, typeInfo, hi', hsz]
  rw [if_pos hk, q2]
end Go.Proofs.YtbnjmmefnjoofaaDoor
end

section
/-
  head.Envelope, of an envelope that is valid.
-/
namespace Go.Proofs.YtbnjmmefnjoofaaDoor
open Go.ChangeShapes Go.WideShapes Go.ChangeAt Go.RowKit Go.Deep
set_option maxRecDepth 100000

def high2 (n : Nat) : List UInt8 := (lowL n 2).reverse
theorem high2_len (n : Nat) : (high2 n).length = 2 := by rw [high2, List.length_reverse, lowL_len]
def envL (x y : UInt8) (cm pk : List UInt8) (p n : Nat) (body : List UInt8) : List UInt8 := ((([x, y] ++ cm) ++ headL pk p n) ++ high2 body.length) ++ body
theorem envL_len {x y : UInt8} {cm pk : List UInt8} (hc : cm.length = 32) (hk : pk.length = 32) (p n : Nat) (body : List UInt8) : (envL x y cm pk p n body).length = 76 + body.length := by
  simp [envL, hc, headL_len hk, high2_len]
  omega
theorem Own.lit2 (w : World) (B : Nat) (x y : UInt8) (hB : B ≤ w.heap.size) : Own B (w.alloc (.cells #[.int .u8 (x.toNat : Int), .int .u8 (y.toNat : Int)] 5)) (some ⟨w.heap.size, 0, none⟩) 2 2 [x, y] :=
  World.ownsRow_lit (e := 5) (size := 1) w #[.int .u8 (x.toNat : Int), .int .u8 (y.toNat : Int)] 2 hB (by unfold maxLen; omega) rfl
set_option maxHeartbeats 8000000 in
theorem envelope_ok {w : World} {x y : UInt8} {cm pk body : List UInt8} {p n : Nat} {A : Option Addr} {m c : Nat} (hc : cm.length = 32) (hk : pk.length = 32) (hx : x.toNat ≤ 7) (hy : y.toNat ≤ 7) (hp : p ≤ 1000000) (hn : n ≤ 1000000) (hb : Bs w A m c body) (hm : m ≤ 600) :
    Calls Tryd.prog 42 #[.agg (evC (x.toNat : Int) (y.toNat : Int) cm pk (p : Int) (n : Int) A m c).toArray] w (RetBsE (envL x y cm pk p n body) 0 w) := by
  have hok : okE (x.toNat : Int) (y.toNat : Int) (p : Int) (n : Int) m = true := by
    unfold okE okH upB
    simp only [Bool.and_eq_true, decide_eq_true_eq]
    omega
  have VE := Lib.hid (fun (W : World) => validEnvelope_calls (w := W) (f := (x.toNat : Int)) (t := (y.toNat : Int)) (p := (p : Int)) (n := (n : Int)) (A := A) (m := m) (c := c) hc hk (by omega))
  rw [hok] at VE
  have HB := Lib.hid (fun (W : World) => headBytes_ok (w := W) hk hp hn)
  have lm := hb.len
  have H2 : Hid (∀ W, Calls Tryd.prog 41 #[.int .u64 (m : Int), .int .i64 2] W (RetBs (high2 m) W)) := fun W => high_calls (by omega) (by omega) (by omega) (by omega) rfl
  have u1 : IntKind.u8.wrap (x.toNat : Int) = (x.toNat : Int) := IntWalk.u8_in _ (by omega)
  have u2 : IntKind.u8.wrap (y.toNat : Int) = (y.toNat : Int) := IntWalk.u8_in _ (by omega)
  have u3 : IntKind.u64.wrap (m : Int) = (m : Int) := IntWalk.u64_in _ (by omega)
  obtain ⟨c0, c1, c68, ch, c5⟩ := ev_cells hc hk (x.toNat : Int) (y.toNat : Int) (p : Int) (n : Int) A m c
  replace c0 := Lib.hid c0
  replace c1 := Lib.hid c1
  replace c68 := Lib.hid c68
  have H34 : Hid (∀ (W : World) (g : Nat) T, Cb W g T (evC (x.toNat : Int) (y.toNat : Int) cm pk (p : Int) (n : Int) A m c) → ∀ j v, (hdC pk (p : Int) (n : Int))[j]? = some v → W.cell? ⟨g, 34 + j, none⟩ = some v) := fun W g T k => k.mid ch (by simp [cellsOf_len, hc])
  have HC : Hid (∀ (W : World) (g : Nat) T, Cb W g T (evC (x.toNat : Int) (y.toNat : Int) cm pk (p : Int) (n : Int) A m c) → Bs W (some ⟨g, 2, none⟩) 32 32 cm) := fun W g T k => k.bs c5 rfl hc (by omega)
  clear c5 ch
  have hR : Hid (((([x, y] ++ cm) ++ headL pk p n) ++ high2 m) ++ body = envL x y cm pk p n body) := by unfold Hid envL; rw [lm]
  have L_h := hdC_len hk (p : Int) (n : Int)
  have L_ev := evC_len hc hk (x.toNat : Int) (y.toNat : Int) (p : Int) (n : Int) A m c
  have OL := Lib.hid (fun (W : World) (B : Nat) (h : B ≤ W.heap.size) => Own.lit2 W B x y h)
  have l_hl := headL_len hk p n
  have l_h2 := high2_len m
  generalize headL pk p n = hl at *
  generalize hdC pk (p : Int) (n : Int) = hd at *
  generalize evC (x.toNat : Int) (y.toNat : Int) cm pk (p : Int) (n : Int) A m c = ev at *
  generalize envL x y cm pk p n body = rr at *
  generalize high2 m = h2 at *
  have lxy : ([x, y] : List UInt8).length = 2 := rfl
  generalize [x, y] = xy at *
  have S_ev : ev.toArray.size = 69 := by rw [List.size_toArray, L_ev]
  replace hb := Lib.hid hb
  have BX : Hid (∀ s, Ext w s → Bs s A m c body) := fun s e => hb.out.ext e
  clear hok hp hn hb
  obtain ⟨r, hr⟩ : ∃ r, r = w.heap.size := ⟨_, rfl⟩
  have B0 : Hid (Cb (w.alloc (Obj.cells ev.toArray 37)) r 37 ev ∧ Ext w (w.alloc (Obj.cells ev.toArray 37))) := by rw [hr]; exact ⟨Cb.new _ _ _, (Ext.refl w).alloc _⟩
  go_enter Tryd.func42, Tryd.ntmps42
  go_upto_region 1 with fail
  refine wp_gen (fun W => Cb W r 37 ev ∧ Ext w W) B0.out ?_
  rw [← hr]
  have wr : w.heap.size ≤ r := Nat.le_of_eq hr.symm
  clear B0
  replace hr := Lib.hid hr
  rintro w0 ⟨k0, x0⟩
  replace k0 := Lib.hid k0
  replace x0 := Lib.hid x0
  go_wp2_with (refine wpList_load_row rfl 37 _ rfl r rfl 37 ev.toArray (0, 0) _ k0.out rfl rfl (by rw [S_ev]; rfl) ?_; go_frame)
  refine (VE.out _).mono ?_
  rintro e w1 ⟨rfl, e1⟩
  have k1 := Lib.hid (k0.out.ext e1)
  have x1 := Lib.hid (x0.out.trans e1)
  have q1 := Lib.hid (H34.out _ _ _ k1.out)
  clear k0 x0 e1 VE
  go_wp2_with (refine wpList_load_mid rfl (g := r) (off := 34) (ys := hd) rfl rfl q1.out rfl rfl (by rw [L_h]; rfl) ?_; go_frame)
  refine (HB.out _).mono ?_
  rintro e w2 ⟨A2, n2, d2, rfl, b2, e2⟩
  obtain rfl : n2 = 40 := by rw [← b2.len, l_hl]
  have k2 := k1.out.ext e2
  have x2 := x1.out.trans e2
  have f0 := k2.cell c0.out
  have f1 := k2.cell c1.out
  have Q2 : Hid (∀ s, Ext w2 s → Bs s A2 40 d2 hl ∧ Cb s r 37 ev ∧ Ext w s) := fun s e => ⟨b2.ext e, k2.ext e, x2.trans e⟩
  obtain ⟨g3, hg3⟩ : ∃ g, g = w2.heap.size := ⟨_, rfl⟩
  have z2 : Hid (Own g3 (w2.alloc (.cells #[.int .u8 (x.toNat : Int), .int .u8 (y.toNat : Int)] 5)) (some ⟨g3, 0, none⟩) 2 2 xy ∧ Below g3 w2 (w2.alloc (.cells #[.int .u8 (x.toNat : Int), .int .u8 (y.toNat : Int)] 5))) := by
    rw [hg3]
    exact ⟨OL.out w2 _ (Nat.le_refl _), (Ext.refl _).alloc _⟩
  have EQ : Hid (∀ s, Below g3 w2 s → Bs s A2 40 d2 hl ∧ Cb s r 37 ev ∧ Ext w s ∧ g3 ≤ s.heap.size) := fun s e => by
    rw [hg3] at e ⊢
    obtain ⟨q1, q2, q3⟩ := Q2.out s e
    exact ⟨q1, q2, q3, e.size⟩
  replace hg3 := Lib.hid hg3
  clear k1 x1 q1 e2 HB k2 x2 OL b2 Q2
  go_upto_region 5 with fail
  rw [← hg3.out]
  refine wp_gen (fun W => Own g3 W (some ⟨g3, 0, none⟩) 2 2 xy ∧ Below g3 w2 W) z2.out ?_
  clear z2 f0 f1 u1 u2 hg3
  rintro w3 ⟨o3, x3⟩
  obtain ⟨b3, k3, _, r3⟩ := EQ.out _ x3
  have cb3 := Lib.hid (HC.out _ _ _ k3)
  replace o3 := Lib.hid o3
  replace x3 := Lib.hid x3
  clear b3 k3
  go_upto_region 6 with (at_builtin; (with_reducible refine wpList_append_bs rfl (B := g3) (s := .tmp 23) (x := .tmp 25) rfl rfl rfl o3.out cb3.out (by omega) r3 ?_); intro A4 c4 w4 o4 g4 b4; replace o4 := Lib.hid o4; clear g4; replace b4 := Lib.hid b4; go_frame)
  refine wp_gen (fun W => Own g3 W A4 (2 + 32) c4 (xy ++ cm) ∧ Below g3 w2 W) ⟨o4.out, x3.out.trans b4.out⟩ ?_
  clear o4 b4 x3 o3 cb3 r3
  rintro w5 ⟨o5, x5⟩
  obtain ⟨b5, _, _, r5⟩ := EQ.out _ x5
  replace b5 := Lib.hid b5
  replace o5 := Lib.hid o5
  replace x5 := Lib.hid x5
  go_upto_region 7 with (at_builtin; (with_reducible refine wpList_append_bs rfl (B := g3) (s := .tmp 27) (x := .tmp 28) rfl rfl rfl o5.out b5.out (by omega) r5 ?_); intro A6 c6 w6 o6 g6 b6; replace o6 := Lib.hid o6; clear g6; replace b6 := Lib.hid b6; go_frame)
  refine wp_gen (fun W => Own g3 W A6 (2 + 32 + 40) c6 ((xy ++ cm) ++ hl) ∧ Below g3 w2 W) ⟨o6.out, x5.out.trans b6.out⟩ ?_
  clear o6 b6 x5 o5 b5 r5
  rintro w7 ⟨o7, x7⟩
  obtain ⟨_, k7, _, _⟩ := EQ.out _ x7
  have f7 := k7.cell c68.out
  clear k7
  replace o7 := Lib.hid o7
  replace x7 := Lib.hid x7
  go_wp2_with fail
  refine (H2.out _).mono ?_
  rintro e w8 ⟨A8, n8, c8, rfl, b8, e8⟩
  obtain rfl : n8 = 2 := by rw [← b8.len, l_h2]
  have o8 := Lib.hid (o7.out.ext e8)
  have x8 : Hid (Below g3 w2 w8) := x7.out.trans (e8.mono (EQ.out _ x7.out).2.2.2)
  have r8 := (EQ.out _ x8.out).2.2.2
  replace b8 := Lib.hid b8
  clear o7 x7 e8 f7 H2
  go_upto_region 8 with (at_builtin; (with_reducible refine wpList_append_bs rfl (B := g3) (s := .tmp 30) (x := .tmp 35) rfl rfl rfl o8.out b8.out (by omega) r8 ?_); intro A9 c9 w9 o9 g9 b9; replace o9 := Lib.hid o9; clear g9; replace b9 := Lib.hid b9; go_frame)
  refine wp_gen (fun W => Own g3 W A9 (2 + 32 + 40 + 2) c9 (((xy ++ cm) ++ hl) ++ h2) ∧ Below g3 w2 W) ⟨o9.out, x8.out.trans b9.out⟩ ?_
  clear o9 b9 x8 o8 b8 r8
  rintro v1 ⟨o1, y1⟩
  obtain ⟨_, kv, xv, rv⟩ := EQ.out _ y1
  have fv := kv.cell c68.out
  have bv := Lib.hid (BX.out _ xv)
  clear kv xv
  replace o1 := Lib.hid o1
  replace y1 := Lib.hid y1
  go_wp2_with (at_builtin; (with_reducible refine wpList_append_bs rfl (B := g3) (s := .tmp 37) (x := .tmp 39) rfl rfl rfl o1.out bv.out (by omega) rv ?_); intro A5 c5 v2 o2 g2 b2; replace o2 := Lib.hid o2; clear g2; replace b2 := Lib.hid b2; go_frame)
  go_ret2
  exact ⟨A5, _, c5, rfl, by rw [← hR.out]; exact o2.out.bs, (EQ.out _ (y1.out.trans b2.out)).2.2.1⟩
end Go.Proofs.YtbnjmmefnjoofaaDoor
end

section
/-
  head.Envelope, of an envelope that is not valid.
-/
namespace Go.Proofs.YtbnjmmefnjoofaaDoor
open Go.ChangeShapes Go.WideShapes Go.ChangeAt Go.RowKit Go.Deep
set_option maxRecDepth 100000

set_option maxHeartbeats 2000000 in
theorem envelope_bad {w : World} {f t p n : Int} {cm pk : List UInt8} {A : Option Addr} {m c : Nat} (hc : cm.length = 32) (hk : pk.length = 32) (hm : m ≤ 9223372036854775807) (hb : okE f t p n m = false) : Calls Tryd.prog 42 #[.agg (evC f t cm pk p n A m c).toArray] w fun e w' => e = .returned (.tuple #[.slice none 0 0, .int .i64 1]) ∧ Ext w w' := by
  have VE := Lib.hid (fun (W : World) => validEnvelope_calls (w := W) (f := f) (t := t) (p := p) (n := n) (A := A) (m := m) (c := c) hc hk hm)
  rw [hb] at VE
  have L_ev := evC_len hc hk f t p n A m c
  generalize evC f t cm pk p n A m c = ev at *
  have S_ev : ev.toArray.size = 69 := by rw [List.size_toArray, L_ev]
  have B0 : Hid (Cb (w.alloc (Obj.cells ev.toArray 37)) w.heap.size 37 ev ∧ Ext w (w.alloc (Obj.cells ev.toArray 37))) := ⟨Cb.new _ _ _, (Ext.refl w).alloc _⟩
  clear hb
  go_enter Tryd.func42, Tryd.ntmps42
  go_upto_region 1 with fail
  refine wp_gen (fun W => Cb W w.heap.size 37 ev ∧ Ext w W) B0.out ?_
  clear B0
  rintro w0 ⟨k0, x0⟩
  replace k0 := Lib.hid k0
  replace x0 := Lib.hid x0
  go_wp2_with (refine wpList_load_row rfl 37 _ rfl w.heap.size rfl 37 ev.toArray (0, 0) _ k0.out rfl rfl (by rw [S_ev]; rfl) ?_; go_frame)
  refine (VE.out _).mono ?_
  rintro e w1 ⟨rfl, e1⟩
  go_wp2_with fail
  go_ret2
  exact ⟨rfl, x0.out.trans e1⟩
end Go.Proofs.YtbnjmmefnjoofaaDoor
end

section
/-
  palfreyref12.Right and RightEnvelope.
-/
namespace Go.Proofs.YtbnjmmefnjoofaaDoor
open Go.ChangeShapes Go.WideShapes Go.ChangeAt Go.RowKit Go.Deep
set_option maxRecDepth 100000

set_option maxHeartbeats 4000000 in
theorem right_calls {w : World} {pk : List UInt8} {p n : Int} (lp : pk.length = 32) : Calls Tryd.prog 94 #[.agg (hdC pk p n).toArray] w fun e w' => e = .returned (.bool (okH p n)) ∧ Ext w w' := by
  have c32 : Hid ((hdC pk p n)[32]? = some (.int .i64 p)) := by unfold Hid hdC; rw [List.getElem?_append_right (by rw [cellsOf_len, lp]; omega)]; simp [cellsOf_len, lp]
  have c33 : Hid ((hdC pk p n)[33]? = some (.int .i64 n)) := by unfold Hid hdC; rw [List.getElem?_append_right (by rw [cellsOf_len, lp]; omega)]; simp [cellsOf_len, lp]
  generalize hdC pk p n = hd at *
  have B0 : Hid (Cb (w.alloc (Obj.cells hd.toArray 34)) w.heap.size 34 hd ∧ Ext w (w.alloc (Obj.cells hd.toArray 34))) := ⟨Cb.new _ _ _, (Ext.refl w).alloc _⟩
  go_enter Tryd.func94, Tryd.ntmps94
  go_upto_region 1 with fail
  refine wp_gen (fun W => Cb W w.heap.size 34 hd ∧ Ext w W) B0.out ?_
  clear B0
  rintro w0 ⟨k0, x0⟩
  have b0 := k0.cell c32.out
  have b1 := k0.cell c33.out
  clear k0
  replace x0 := Lib.hid x0
  rcases d1 : decide (p ≥ 0) with _ | _
  · skip
    have hb : Hid (okH p n = false) := by unfold Hid okH upB; rw [show decide (0 ≤ p) = decide (p ≥ 0) from rfl, show decide (0 ≤ n) = decide (n ≥ 0) from rfl]; simp only [d1, Bool.and_false, Bool.false_and]
    go_wp2_with fail
    go_ret
    exact ⟨by rw [hb.out]; rfl, x0.out⟩
  · skip
    rcases d2 : decide (p ≤ 1000000) with _ | _
    · skip
      have hb : Hid (okH p n = false) := by unfold Hid okH upB; rw [show decide (0 ≤ p) = decide (p ≥ 0) from rfl, show decide (0 ≤ n) = decide (n ≥ 0) from rfl]; simp only [d1, d2, Bool.and_false, Bool.false_and]
      go_wp2_with fail
      go_ret
      exact ⟨by rw [hb.out]; rfl, x0.out⟩
    · skip
      rcases d3 : decide (n ≥ 0) with _ | _
      · skip
        have hb : Hid (okH p n = false) := by unfold Hid okH upB; rw [show decide (0 ≤ p) = decide (p ≥ 0) from rfl, show decide (0 ≤ n) = decide (n ≥ 0) from rfl]; simp only [d1, d2, d3, Bool.and_false, Bool.false_and]
        go_wp2_with fail
        go_ret
        exact ⟨by rw [hb.out]; rfl, x0.out⟩
      · skip
        rcases d4 : decide (n ≤ 1000000) with _ | _
        · skip
          have hb : Hid (okH p n = false) := by unfold Hid okH upB; rw [show decide (0 ≤ p) = decide (p ≥ 0) from rfl, show decide (0 ≤ n) = decide (n ≥ 0) from rfl]; simp only [d1, d2, d3, d4, Bool.and_false, Bool.false_and]
          go_wp2_with fail
          go_ret
          exact ⟨by rw [hb.out]; rfl, x0.out⟩
        · skip
          have hb : Hid (okH p n = true) := by unfold Hid okH upB; rw [show decide (0 ≤ p) = decide (p ≥ 0) from rfl, show decide (0 ≤ n) = decide (n ≥ 0) from rfl]; rw [d1, d2, d3, d4]; rfl
          go_wp2_with fail
          go_ret
          exact ⟨by rw [hb.out]; rfl, x0.out⟩
set_option maxHeartbeats 8000000 in
theorem rightEnvelope_calls {w : World} {f t p n : Int} {cm pk : List UInt8} {A : Option Addr} {m c : Nat} (hc : cm.length = 32) (hk : pk.length = 32) (hm : m ≤ 9223372036854775807) : Calls Tryd.prog 78 #[.agg (evC f t cm pk p n A m c).toArray] w fun e w' => e = .returned (.bool (okE f t p n m)) ∧ Ext w w' := by
  have RH := Lib.hid (fun (W : World) => right_calls (w := W) (p := p) (n := n) hk)
  obtain ⟨c0, c1, c68, ch, c5⟩ := ev_cells hc hk f t p n A m c
  clear c5
  replace c0 := Lib.hid c0
  replace c1 := Lib.hid c1
  replace c68 := Lib.hid c68
  replace ch := Lib.hid (fun _ : Unit => ch)
  have OKE : Hid (∀ a b, okH p n = a → decide ((m : Int) ≤ 600) = b → okE f t p n m = ((decide (f ≥ 0) && decide (f ≤ 7)) && ((decide (t ≥ 0) && decide (t ≤ 7)) && (a && b)))) := fun a b h1 h2 => by unfold okE upB; rw [h1, h2]
  have L_h := hdC_len hk p n
  have l2 : ([Value.int .i64 f, .int .i64 t] ++ cellsOf cm).length = 34 := by simp [cellsOf_len, hc]
  generalize evC f t cm pk p n A m c = ev at *
  generalize hdC pk p n = hd at *
  have H34 : Hid (∀ (W : World) (g : Nat) T, Cb W g T ev → ∀ j v, hd[j]? = some v → W.cell? ⟨g, 34 + j, none⟩ = some v) := fun W g T k => k.mid (ch.out ()) l2
  clear ch
  have B0 : Hid (Cb (w.alloc (Obj.cells ev.toArray 37)) w.heap.size 37 ev ∧ Ext w (w.alloc (Obj.cells ev.toArray 37))) := ⟨Cb.new _ _ _, (Ext.refl w).alloc _⟩
  go_enter Tryd.func78, Tryd.ntmps78
  go_upto_region 1 with fail
  refine wp_gen (fun W => Cb W w.heap.size 37 ev ∧ Ext w W) B0.out ?_
  clear B0
  rintro w0 ⟨k0, x0⟩
  have b0 := k0.cell c0.out
  have b1 := k0.cell c1.out
  have b2 := Lib.hid (H34.out _ _ _ k0)
  replace k0 := Lib.hid k0
  replace x0 := Lib.hid x0
  rcases d1 : decide (f ≥ 0) with _ | _
  · skip
    have hb : Hid (okE f t p n m = false) := by unfold Hid; rw [OKE.out _ _ rfl rfl]; simp only [d1, Bool.and_false, Bool.false_and]
    go_wp2_with fail
    go_ret
    exact ⟨by rw [hb.out]; rfl, x0.out⟩
  · skip
    rcases d2 : decide (f ≤ 7) with _ | _
    · skip
      have hb : Hid (okE f t p n m = false) := by unfold Hid; rw [OKE.out _ _ rfl rfl]; simp only [d1, d2, Bool.and_false, Bool.false_and]
      go_wp2_with fail
      go_ret
      exact ⟨by rw [hb.out]; rfl, x0.out⟩
    · skip
      rcases d3 : decide (t ≥ 0) with _ | _
      · skip
        have hb : Hid (okE f t p n m = false) := by unfold Hid; rw [OKE.out _ _ rfl rfl]; simp only [d1, d2, d3, Bool.and_false, Bool.false_and]
        go_wp2_with fail
        go_ret
        exact ⟨by rw [hb.out]; rfl, x0.out⟩
      · skip
        rcases d4 : decide (t ≤ 7) with _ | _
        · skip
          have hb : Hid (okE f t p n m = false) := by unfold Hid; rw [OKE.out _ _ rfl rfl]; simp only [d1, d2, d3, d4, Bool.and_false, Bool.false_and]
          go_wp2_with fail
          go_ret
          exact ⟨by rw [hb.out]; rfl, x0.out⟩
        · skip
          have hb : Hid (∀ a b, okH p n = a → decide ((m : Int) ≤ 600) = b → okE f t p n m = (a && b)) := fun a b h1 h2 => by rw [OKE.out _ _ h1 h2, d1, d2, d3, d4]; rfl
          clear OKE
          obtain ⟨r, hr⟩ : ∃ r, r = okH p n := ⟨_, rfl⟩
          rw [← hr] at RH
          replace hr := Lib.hid (fun _ : Unit => hr)
          go_wp2_with (refine wpList_load_mid rfl (g := w.heap.size) (off := 34) (ys := hd) rfl rfl b2.out rfl rfl (by rw [L_h]; rfl) ?_; go_frame)
          refine (RH.out _).mono ?_
          rintro e w3 ⟨rfl, e3⟩
          have b3 := (k0.out.ext e3).cell c68.out
          have x3 := Lib.hid (x0.out.trans e3)
          clear b0 b1 b2 k0 x0 e3
          rcases r with _ | _
          · go_wp2_with fail
            go_ret
            exact ⟨by rw [hb.out _ _ (hr.out ()).symm rfl]; rfl, x3.out⟩
          · rcases dm : decide ((m : Int) ≤ 600) with _ | _
            · go_wp2_with fail
              go_ret
              exact ⟨by rw [hb.out _ _ (hr.out ()).symm dm]; rfl, x3.out⟩
            · go_wp2_with fail
              go_ret
              exact ⟨by rw [hb.out _ _ (hr.out ()).symm dm]; rfl, x3.out⟩
end Go.Proofs.YtbnjmmefnjoofaaDoor
end

section
/-
  A literal of one byte. No conditions.
-/
namespace Go.Proofs.YtbnjmmefnjoofaaDoor
open Go.ChangeShapes Go.WideShapes Go.ChangeAt Go.RowKit Go.Deep

theorem Bs.lit8 (w : World) (t : TypeId) (xs : List UInt8) (cs : Array Value) (hcs : cs = (xs.map fun x => Value.int .u8 (x.toNat : Int)).toArray) (n : Nat) (hn : xs.length = n) (hm : n ≤ 1000000) :
    Bs (w.alloc (.cells cs t)) (some ⟨w.heap.size, 0, none⟩) n n xs := by
  subst hcs
  have hr := World.rowIs_alloc w (xs.map fun x => Value.int .u8 (x.toNat : Int)).toArray t (fun i => .int .u8 (bt xs i : Int)) (fun i hi => by
    have hi' : i < xs.length := by simpa using hi
    simp [bt, List.getD, hi'])
  refine ⟨hn, Nat.le_refl _, by unfold maxLen; omega, fun _ => ⟨w.heap.size, 0, rfl, by simp, fun j hj => ?_⟩⟩
  rw [Nat.zero_add]
  exact hr.cell (by simp; omega)
theorem Bs.one8 (w : World) (t : TypeId) (x : UInt8) (v : Int) (hv : v = (x.toNat : Int)) : Bs (w.alloc (.cells #[.int .u8 v] t)) (some ⟨w.heap.size, 0, none⟩) 1 1 [x] :=
  Bs.lit8 w t [x] _ (by rw [hv]; rfl) 1 rfl (by omega)
end Go.Proofs.YtbnjmmefnjoofaaDoor
end

section
/-
  The document's High.
-/
namespace Go.Proofs.YtbnjmmefnjoofaaDoor
open Go.ChangeShapes Go.WideShapes Go.ChangeAt Go.RowKit Go.Deep

theorem lowL_snoc (n k : Nat) : lowL n (k + 1) = lowL n k ++ [UInt8.ofNat (n / 256 ^ k)] := by
  unfold lowL
  rw [List.range_succ, List.map_append]
  rfl
theorem lowAt_u8 (n k : Nat) : (lowAt n k : Int) % 256 = ((UInt8.ofNat (n / 256 ^ k)).toNat : Int) := by
  rw [lowAt_byte, UInt8.toNat_ofNat']

theorem Own.one8 (w : World) (B : Nat) (hB : B ≤ w.heap.size) (x : UInt8) (v : Int) (hv : v = (x.toNat : Int)) : Own B (w.alloc (.cells #[.int .u8 v] 5)) (some ⟨w.heap.size, 0, none⟩) 1 1 [x] := by
  subst hv
  exact World.ownsRow_lit (e := 5) (size := 1) w #[.int .u8 (x.toNat : Int)] 1 hB (by unfold maxLen; omega) rfl

set_option maxHeartbeats 1000000 in
theorem refHigh_calls {n m : Nat} {many : Int} {w : World} (hn : n < 18446744073709551616) (h1 : 0 ≤ many) (h2 : many ≤ 9223372036854775807) (hm8 : m ≤ 8) (hM : (if (8 : Int) < many then 8 else many) = (m : Int)) :
    Calls Tryd.prog 80 #[.int .u64 (n : Int), .int .i64 many] w (RetBs (lowL n m).reverse w) := by
  have hz : lowAt n 0 = n := by simp [lowAt]
  have hM' : m = many ∨ (m = 8 ∧ 8 < many) := by
    by_cases q : (8 : Int) < many
    · rw [if_pos q] at hM; right; omega
    · rw [if_neg q] at hM; left; omega
  clear hM
  go_enter Tryd.func80, Tryd.ntmps80
  go_wp2
  go_loopw [0, 5, 6] (fun x v i wr => ∃ (k cc : Nat) (D : Option Addr), k ≤ m ∧ i = .int .i64 k ∧ x = .int .u64 (lowAt n k : Int) ∧ v = .slice D k cc ∧ Bs wr D k cc (lowL n k).reverse ∧ Ext w wr) (fun _ _ i _ => m - (intOf i).toNat)
  case atStart => exact ⟨0, 0, none, Nat.zero_le _, rfl, by rw [hz], rfl, Bs.nil _, Ext.refl _⟩
  case round =>
    obtain ⟨k, cc, D, hk, rfl, rfl, rfl, ho, hE⟩ := hrel
    clear hz
    by_cases hlt : k < m
    · have t1 : (k : Int) < 8 := by omega
      have t2 : (k : Int) < many := by omega
      have hle := Nat.lt_of_le_of_lt (lowAt_le n k) hn
      have hsz := hE.size
      have hv := Lib.hid (lowAt_u8 n k)
      clear hM'
      go_wp2_with (at_builtin; refine wpList_append_bs rfl (B := w.heap.size) rfl rfl rfl (Own.one8 wr w.heap.size hsz (UInt8.ofNat (n / 256 ^ k)) _ hv.out) (ho.ext ((Ext.refl _).alloc _)) (by omega) (by simp; omega) ?_; intro D' cc' w2 ho2 hg2 hbl)
      go_roundw
      case rel => exact ⟨k + 1, cc', D', by omega, by go_num, congrArg (Value.int .u64) (lowAt_int n k), by rw [Nat.add_comm], by rw [lowL_snoc, List.reverse_append, Nat.add_comm k 1]; exact ho2.bs, (hE.alloc _).trans' hbl⟩
      case measure => simp [intOf]; omega
    · obtain rfl : k = m := by omega
      rcases hM' with hM' | ⟨rfl, hM'⟩
      · subst hM'
        go_wp2
        go_ret
        exact ⟨_, _, _, rfl, ho, hE⟩
      · go_wp2
        go_ret
        exact ⟨_, _, _, rfl, ho, hE⟩
end Go.Proofs.YtbnjmmefnjoofaaDoor
end

section
/-
  palfreyref12.Bytes.
-/
namespace Go.Proofs.YtbnjmmefnjoofaaDoor
open Go.ChangeShapes Go.WideShapes Go.ChangeAt Go.RowKit Go.Deep
set_option maxRecDepth 100000

set_option maxHeartbeats 2000000 in
theorem refBytes_bad {w : World} {pk : List UInt8} {p n : Int} (lp : pk.length = 32) (hb : okH p n = false) : Calls Tryd.prog 79 #[.agg (hdC pk p n).toArray] w fun e w' => e = .returned (.tuple #[.slice none 0 0, .int .i64 1]) ∧ Ext w w' := by
  have VH := Lib.hid (fun (W : World) => right_calls (w := W) (p := p) (n := n) lp)
  rw [hb] at VH
  have L_hd := hdC_len lp p n
  generalize hdC pk p n = hd at *
  have S_hd : hd.toArray.size = 34 := by rw [List.size_toArray, L_hd]
  have B0 : Hid (Cb (w.alloc (Obj.cells hd.toArray 34)) w.heap.size 34 hd ∧ Ext w (w.alloc (Obj.cells hd.toArray 34))) := ⟨Cb.new _ _ _, (Ext.refl w).alloc _⟩
  go_enter Tryd.func79, Tryd.ntmps79
  go_upto_region 1 with fail
  refine wp_gen (fun W => Cb W w.heap.size 34 hd ∧ Ext w W) B0.out ?_
  clear B0
  rintro w0 ⟨k0, x0⟩
  replace k0 := Lib.hid k0
  replace x0 := Lib.hid x0
  go_wp2_with (refine wpList_load_row rfl 34 _ rfl w.heap.size rfl 34 hd.toArray (0, 0) _ k0.out rfl rfl (by rw [S_hd]; rfl) ?_; go_frame)
  refine (VH.out _).mono ?_
  rintro e w1 ⟨rfl, e1⟩
  go_wp2_with fail
  go_ret2
  exact ⟨rfl, x0.out.trans e1⟩
set_option maxHeartbeats 4000000 in
theorem refBytes_ok {w : World} {pk : List UInt8} {p n : Nat} (lp : pk.length = 32) (hp : p ≤ 1000000) (hn : n ≤ 1000000) : Calls Tryd.prog 79 #[.agg (hdC pk (p : Int) (n : Int)).toArray] w (RetBsE (headL pk p n) 0 w) := by
  have hb : okH (p : Int) (n : Int) = true := by
    unfold okH upB
    rw [decide_eq_true (show (0 : Int) ≤ (p : Int) by omega), decide_eq_true (show (p : Int) ≤ 1000000 by omega), decide_eq_true (show (0 : Int) ≤ (n : Int) by omega), decide_eq_true (show (n : Int) ≤ 1000000 by omega)]
    rfl
  have VH := Lib.hid (fun (W : World) => right_calls (w := W) (p := (p : Int)) (n := (n : Int)) lp)
  rw [hb] at VH
  have HP : Hid (∀ W, Calls Tryd.prog 80 #[.int .u64 (p : Int), .int .i64 4] W (RetBs (high4 p) W)) := fun W => refHigh_calls (by omega) (by omega) (by omega) (by omega) rfl
  have HN : Hid (∀ W, Calls Tryd.prog 80 #[.int .u64 (n : Int), .int .i64 4] W (RetBs (high4 n) W)) := fun W => refHigh_calls (by omega) (by omega) (by omega) (by omega) rfl
  have u1 : IntKind.u64.wrap (p : Int) = (p : Int) := IntWalk.u64_in _ (by omega)
  have u2 : IntKind.u64.wrap (n : Int) = (n : Int) := IntWalk.u64_in _ (by omega)
  obtain ⟨c0, c32, c33⟩ := hd_cells lp (p : Int) (n : Int)
  have L_hd := hdC_len lp (p : Int) (n : Int)
  have hR : Hid ((pk ++ high4 p) ++ high4 n = headL pk p n) := rfl
  replace c0 := Lib.hid (fun _ : Unit => c0)
  replace c32 := Lib.hid c32
  replace c33 := Lib.hid c33
  generalize headL pk p n = hl at *
  generalize hdC pk (p : Int) (n : Int) = hd at *
  have lP := high4_len p
  have lN := high4_len n
  generalize high4 p = hp4 at *
  generalize high4 n = hn4 at *
  clear hb hp hn
  have S_hd : hd.toArray.size = 34 := by rw [List.size_toArray, L_hd]
  obtain ⟨r, hr⟩ : ∃ r, r = w.heap.size := ⟨_, rfl⟩
  have B0 : Hid (Cb (w.alloc (Obj.cells hd.toArray 34)) r 34 hd ∧ Ext w (w.alloc (Obj.cells hd.toArray 34))) := by rw [hr]; exact ⟨Cb.new _ _ _, (Ext.refl w).alloc _⟩
  go_enter Tryd.func79, Tryd.ntmps79
  go_upto_region 1 with fail
  refine wp_gen (fun W => Cb W r 34 hd ∧ Ext w W) B0.out ?_
  rw [← hr]
  have wr : w.heap.size ≤ r := Nat.le_of_eq hr.symm
  clear B0
  replace hr := Lib.hid hr
  rintro w0 ⟨k0, x0⟩
  replace k0 := Lib.hid k0
  replace x0 := Lib.hid x0
  go_wp2_with (refine wpList_load_row rfl 34 _ rfl r rfl 34 hd.toArray (0, 0) _ k0.out rfl rfl (by rw [S_hd]; rfl) ?_; go_frame)
  refine (VH.out _).mono ?_
  rintro e w1 ⟨rfl, e1⟩
  have k1 := Lib.hid (k0.out.ext e1)
  have x1 := Lib.hid (x0.out.trans e1)
  have r1 : r + 1 ≤ w1.heap.size := (k0.out.ext e1).lt
  have b1 := Lib.hid (k1.out.bs (c0.out ()) rfl lp (by omega))
  clear k0 x0 e1 VH
  go_upto_region 4 with (at_builtin; (with_reducible refine wpList_append_bs rfl (B := r + 1) (s := .tmp 8) (x := .tmp 10) rfl rfl rfl (Own.empty w1 _ r1) (b1.out.ext ((Ext.refl _).alloc _)) (by omega) (by simp; omega) ?_); intro A2 c2 w2 o2 g2 b2; simp only [Nat.zero_add, List.nil_append] at o2 ⊢; replace o2 := Lib.hid o2; clear g2; replace b2 : Hid (Below (r + 1) w1 w2) := Below.trans (((Ext.refl w1).alloc _).mono r1) b2; go_frame)
  refine wp_gen (fun W => Own (r + 1) W A2 32 c2 pk ∧ Cb W r 34 hd ∧ Ext w W) ⟨o2.out, k1.out.kept b2.out (by omega), Below.trans x1.out (b2.out.mono (by omega))⟩ ?_
  clear o2 b2 b1 k1 x1 r1
  rintro w3 ⟨o3, k3, x3⟩
  have b3 := k3.cell c32.out
  replace o3 := Lib.hid o3
  replace k3 := Lib.hid k3
  replace x3 := Lib.hid x3
  go_wp2_with fail
  refine (HP.out _).mono ?_
  rintro e w4 ⟨A4, n4, c4, rfl, b4, e4⟩
  obtain rfl : n4 = 4 := by rw [← b4.len, lP]
  have o4 := Lib.hid (o3.out.ext e4)
  have k4 := Lib.hid (k3.out.ext e4)
  have x4 := Lib.hid (x3.out.trans e4)
  have r4 : r + 1 ≤ w4.heap.size := (k3.out.ext e4).lt
  replace b4 := Lib.hid b4
  clear b3 o3 k3 x3 e4 HP
  go_upto_region 5 with (at_builtin; (with_reducible refine wpList_append_bs rfl (B := r + 1) (s := .tmp 12) (x := .tmp 16) rfl rfl rfl o4.out b4.out (by omega) r4 ?_); intro A5 c5 w5 o5 g5 b5; replace o5 := Lib.hid o5; clear g5; replace b5 := Lib.hid b5; go_frame)
  refine wp_gen (fun W => Own (r + 1) W A5 (32 + 4) c5 (pk ++ hp4) ∧ Cb W r 34 hd ∧ Ext w W) ⟨o5.out, k4.out.kept b5.out (by omega), Below.trans x4.out (b5.out.mono (by omega))⟩ ?_
  clear o5 b5 o4 b4 k4 x4 r4
  rintro w6 ⟨o6, k6, x6⟩
  have b6 := k6.cell c33.out
  replace o6 := Lib.hid o6
  replace k6 := Lib.hid k6
  replace x6 := Lib.hid x6
  go_wp2_with fail
  refine (HN.out _).mono ?_
  rintro e w7 ⟨A7, n7, c7, rfl, b7, e7⟩
  obtain rfl : n7 = 4 := by rw [← b7.len, lN]
  have o7 := Lib.hid (o6.out.ext e7)
  have x7 := Lib.hid (x6.out.trans e7)
  have r7 : r + 1 ≤ w7.heap.size := (k6.out.ext e7).lt
  replace b7 := Lib.hid b7
  clear b6 o6 k6 x6 e7 HN
  go_wp2_with (at_builtin; (with_reducible refine wpList_append_bs rfl (B := r + 1) (s := .tmp 18) (x := .tmp 22) rfl rfl rfl o7.out b7.out (by omega) r7 ?_); intro A8 c8 w8 o8 g8 b8; replace o8 := Lib.hid o8; clear g8; replace b8 := Lib.hid b8; go_frame)
  go_ret2
  exact ⟨A8, _, c8, rfl, by rw [← hR.out]; exact o8.out.bs, Below.trans x7.out (b8.out.mono (by omega))⟩
end Go.Proofs.YtbnjmmefnjoofaaDoor
end

section
/-
  palfreyref12.Envelope.
-/
namespace Go.Proofs.YtbnjmmefnjoofaaDoor
open Go.ChangeShapes Go.WideShapes Go.ChangeAt Go.RowKit Go.Deep
set_option maxRecDepth 100000

set_option maxHeartbeats 2000000 in
theorem refEnvelope_bad {w : World} {f t p n : Int} {cm pk : List UInt8} {A : Option Addr} {m c : Nat} (hc : cm.length = 32) (hk : pk.length = 32) (hm : m ≤ 9223372036854775807) (hb : okE f t p n m = false) : Calls Tryd.prog 56 #[.agg (evC f t cm pk p n A m c).toArray] w fun e w' => e = .returned (.tuple #[.slice none 0 0, .int .i64 1]) ∧ Ext w w' := by
  have VE := Lib.hid (fun (W : World) => rightEnvelope_calls (w := W) (f := f) (t := t) (p := p) (n := n) (A := A) (m := m) (c := c) hc hk hm)
  rw [hb] at VE
  have L_ev := evC_len hc hk f t p n A m c
  generalize evC f t cm pk p n A m c = ev at *
  have S_ev : ev.toArray.size = 69 := by rw [List.size_toArray, L_ev]
  have B0 : Hid (Cb (w.alloc (Obj.cells ev.toArray 37)) w.heap.size 37 ev ∧ Ext w (w.alloc (Obj.cells ev.toArray 37))) := ⟨Cb.new _ _ _, (Ext.refl w).alloc _⟩
  clear hb
  go_enter Tryd.func56, Tryd.ntmps56
  go_upto_region 1 with fail
  refine wp_gen (fun W => Cb W w.heap.size 37 ev ∧ Ext w W) B0.out ?_
  clear B0
  rintro w0 ⟨k0, x0⟩
  replace k0 := Lib.hid k0
  replace x0 := Lib.hid x0
  go_wp2_with (refine wpList_load_row rfl 37 _ rfl w.heap.size rfl 37 ev.toArray (0, 0) _ k0.out rfl rfl (by rw [S_ev]; rfl) ?_; go_frame)
  refine (VE.out _).mono ?_
  rintro e w1 ⟨rfl, e1⟩
  go_wp2_with fail
  go_ret2
  exact ⟨rfl, x0.out.trans e1⟩
set_option maxHeartbeats 8000000 in
theorem refEnvelope_ok {w : World} {x y : UInt8} {cm pk body : List UInt8} {p n : Nat} {A : Option Addr} {m c : Nat} (hc : cm.length = 32) (hk : pk.length = 32) (hx : x.toNat ≤ 7) (hy : y.toNat ≤ 7) (hp : p ≤ 1000000) (hn : n ≤ 1000000) (hb : Bs w A m c body) (hm : m ≤ 600) :
    Calls Tryd.prog 56 #[.agg (evC (x.toNat : Int) (y.toNat : Int) cm pk (p : Int) (n : Int) A m c).toArray] w (RetBsE (envL x y cm pk p n body) 0 w) := by
  have hok : okE (x.toNat : Int) (y.toNat : Int) (p : Int) (n : Int) m = true := by
    unfold okE okH upB
    simp only [Bool.and_eq_true, decide_eq_true_eq]
    omega
  have VE := Lib.hid (fun (W : World) => rightEnvelope_calls (w := W) (f := (x.toNat : Int)) (t := (y.toNat : Int)) (p := (p : Int)) (n := (n : Int)) (A := A) (m := m) (c := c) hc hk (by omega))
  rw [hok] at VE
  have HB := Lib.hid (fun (W : World) => refBytes_ok (w := W) hk hp hn)
  have lm := hb.len
  have H2 : Hid (∀ W, Calls Tryd.prog 80 #[.int .u64 (m : Int), .int .i64 2] W (RetBs (high2 m) W)) := fun W => refHigh_calls (by omega) (by omega) (by omega) (by omega) rfl
  have u1 : IntKind.u8.wrap (x.toNat : Int) = (x.toNat : Int) := IntWalk.u8_in _ (by omega)
  have u2 : IntKind.u8.wrap (y.toNat : Int) = (y.toNat : Int) := IntWalk.u8_in _ (by omega)
  have u3 : IntKind.u64.wrap (m : Int) = (m : Int) := IntWalk.u64_in _ (by omega)
  obtain ⟨c0, c1, c68, ch, c5⟩ := ev_cells hc hk (x.toNat : Int) (y.toNat : Int) (p : Int) (n : Int) A m c
  replace c0 := Lib.hid c0
  replace c1 := Lib.hid c1
  replace c68 := Lib.hid c68
  have H34 : Hid (∀ (W : World) (g : Nat) T, Cb W g T (evC (x.toNat : Int) (y.toNat : Int) cm pk (p : Int) (n : Int) A m c) → ∀ j v, (hdC pk (p : Int) (n : Int))[j]? = some v → W.cell? ⟨g, 34 + j, none⟩ = some v) := fun W g T k => k.mid ch (by simp [cellsOf_len, hc])
  have HC : Hid (∀ (W : World) (g : Nat) T, Cb W g T (evC (x.toNat : Int) (y.toNat : Int) cm pk (p : Int) (n : Int) A m c) → Bs W (some ⟨g, 2, none⟩) 32 32 cm) := fun W g T k => k.bs c5 rfl hc (by omega)
  clear c5 ch
  have hR : Hid (((([x, y] ++ cm) ++ headL pk p n) ++ high2 m) ++ body = envL x y cm pk p n body) := by unfold Hid envL; rw [lm]
  have L_h := hdC_len hk (p : Int) (n : Int)
  have L_ev := evC_len hc hk (x.toNat : Int) (y.toNat : Int) (p : Int) (n : Int) A m c
  have OL := Lib.hid (fun (W : World) (B : Nat) (h : B ≤ W.heap.size) => Own.lit2 W B x y h)
  have l_hl := headL_len hk p n
  have l_h2 := high2_len m
  generalize headL pk p n = hl at *
  generalize hdC pk (p : Int) (n : Int) = hd at *
  generalize evC (x.toNat : Int) (y.toNat : Int) cm pk (p : Int) (n : Int) A m c = ev at *
  generalize envL x y cm pk p n body = rr at *
  generalize high2 m = h2 at *
  have lxy : ([x, y] : List UInt8).length = 2 := rfl
  generalize [x, y] = xy at *
  have S_ev : ev.toArray.size = 69 := by rw [List.size_toArray, L_ev]
  replace hb := Lib.hid hb
  have BX : Hid (∀ s, Ext w s → Bs s A m c body) := fun s e => hb.out.ext e
  clear hok hp hn hb
  obtain ⟨r, hr⟩ : ∃ r, r = w.heap.size := ⟨_, rfl⟩
  have B0 : Hid (Cb (w.alloc (Obj.cells ev.toArray 37)) r 37 ev ∧ Ext w (w.alloc (Obj.cells ev.toArray 37))) := by rw [hr]; exact ⟨Cb.new _ _ _, (Ext.refl w).alloc _⟩
  go_enter Tryd.func56, Tryd.ntmps56
  go_upto_region 1 with fail
  refine wp_gen (fun W => Cb W r 37 ev ∧ Ext w W) B0.out ?_
  rw [← hr]
  have wr : w.heap.size ≤ r := Nat.le_of_eq hr.symm
  clear B0
  replace hr := Lib.hid hr
  rintro w0 ⟨k0, x0⟩
  replace k0 := Lib.hid k0
  replace x0 := Lib.hid x0
  go_wp2_with (refine wpList_load_row rfl 37 _ rfl r rfl 37 ev.toArray (0, 0) _ k0.out rfl rfl (by rw [S_ev]; rfl) ?_; go_frame)
  refine (VE.out _).mono ?_
  rintro e w1 ⟨rfl, e1⟩
  have k1 := k0.out.ext e1
  have x1 := x0.out.trans e1
  have f0 := k1.cell c0.out
  have f1 := k1.cell c1.out
  have r1 : r + 1 ≤ w1.heap.size := k1.lt
  have cb1 := HC.out _ _ _ k1
  have EQ : Hid (∀ s, Below (r + 1) w1 s → Cb s r 37 ev ∧ Ext w s ∧ r + 1 ≤ s.heap.size) := fun s e => ⟨k1.kept e (by omega), x1.trans' (e.mono (by omega)), Nat.le_trans r1 e.size⟩
  have W1D : Below (r + 1) w1 w1.drew := (Below.refl _ _).drew
  clear k0 x0 e1 VE k1 x1
  go_wp2_with fail
  refine qgB (r + 1) [0, 1, 2, 3, 4, 5, 7, 8, 6, 9, 10] [6, 9] ?_
  repeat ((first | refine qR _ (fun w' e => And.intro (((W1D.trans e).cell (p := ⟨r, 0, none⟩) (Nat.lt_succ_self r)).trans f0) (((W1D.trans e).cell (p := ⟨r, 1, none⟩) (Nat.lt_succ_self r)).trans f1)) ?_ | refine qS ?_); go_frame)
  have W0 : Hid (Below (r + 1) w1 w1.drew) := W1D
  have r2 : r + 1 ≤ w1.drew.heap.size := r1
  have cb2 := Lib.hid (cb1.ext (Ext.drew (Ext.refl w1)))
  clear W1D f0 f1 cb1
  generalize w1.drew = W at *
  have OL1 := Lib.hid (OL.out W (r + 1) r2)
  clear OL
  refine qD fun K hK => ?_
  go_simp
  refine hK.out _ _ ((Below.refl _ _).alloc r2 _) ?_
  clear hK K
  try go_frame
  have o3 : Hid (Own (r + 1) (W.alloc (.cells #[.int .u8 (x.toNat : Int), .int .u8 (y.toNat : Int)] 5)) (some ⟨W.heap.size, 0, none⟩) 2 2 xy) := OL1
  have x3 : Hid (Below (r + 1) w1 (W.alloc (.cells #[.int .u8 (x.toNat : Int), .int .u8 (y.toNat : Int)] 5))) := W0.out.alloc r2 _
  have cb3 : Hid (Bs (W.alloc (.cells #[.int .u8 (x.toNat : Int), .int .u8 (y.toNat : Int)] 5)) (some ⟨r, 2, none⟩) 32 32 cm) := cb2.out.ext ((Ext.refl _).alloc _)
  have r3 : r + 1 ≤ (W.alloc (.cells #[.int .u8 (x.toNat : Int), .int .u8 (y.toNat : Int)] 5)).heap.size := Nat.le_trans r1 x3.out.size
  repeat ((first | refine qR0 ?_ | refine qS ?_); go_frame)
  refine qD fun K hK => ?_
  refine wp_append_bs rfl rfl rfl o3.out cb3.out (by omega) r3 ?_
  intro A4 c4 w4 o4 g4 b4
  refine hK.out _ _ b4 ?_
  clear hK K
  try go_frame
  have x4 : Hid (Below (r + 1) w1 w4) := x3.out.trans b4
  replace o4 := Lib.hid o4
  clear g4 b4 o3 x3 cb3 r3 OL1 W0 cb2 u1 u2
  repeat ((first | refine qR0 ?_ | refine qS ?_); go_frame)
  refine seq_done ?_
  refine gen_q (fun W => Own (r + 1) W A4 (2 + 32) c4 (xy ++ cm) ∧ Below (r + 1) w1 W) ⟨o4.out, x4.out⟩ ?_
  clear o4 x4 r2
  rintro w5 ⟨o5, x5⟩
  obtain ⟨k5, y5, r5⟩ := EQ.out _ x5
  have h5 := Lib.hid (H34.out _ _ _ k5)
  replace k5 := Lib.hid k5
  replace o5 := Lib.hid o5
  replace x5 := Lib.hid x5
  clear y5
  go_wp2_with (refine wpList_load_mid rfl (g := r) (off := 34) (ys := hd) rfl rfl h5.out rfl rfl (by rw [L_h]; rfl) ?_; go_frame)
  refine (HB.out _).mono ?_
  rintro e w2 ⟨A2, n2, d2, rfl, b2, e2⟩
  obtain rfl : n2 = 40 := by rw [← b2.len, l_hl]
  have o6 := Lib.hid (o5.out.ext e2)
  have x6 : Hid (Below (r + 1) w1 w2) := x5.out.trans (e2.mono r5)
  have r6 := (EQ.out _ x6.out).2.2
  replace b2 := Lib.hid b2
  clear h5 k5 o5 x5 e2 HB
  go_upto_region 6 with (at_builtin; (with_reducible refine wpList_append_bs rfl (B := r + 1) (s := .tmp 26) (x := .tmp 27) rfl rfl rfl o6.out b2.out (by omega) r6 ?_); intro A6 c6 w6 o6_ g6 b6; replace o6_ := Lib.hid o6_; clear g6; replace b6 := Lib.hid b6; go_frame)
  refine wp_gen (fun W => Own (r + 1) W A6 (2 + 32 + 40) c6 ((xy ++ cm) ++ hl) ∧ Below (r + 1) w1 W) ⟨o6_.out, x6.out.trans b6.out⟩ ?_
  clear o6_ b6 x6 o6 b2 r6 r5
  rintro w7 ⟨o7, x7⟩
  obtain ⟨k7, _, _⟩ := EQ.out _ x7
  have f7 := k7.cell c68.out
  clear k7
  replace o7 := Lib.hid o7
  replace x7 := Lib.hid x7
  go_wp2_with fail
  refine (H2.out _).mono ?_
  rintro e w8 ⟨A8, n8, c8, rfl, b8, e8⟩
  obtain rfl : n8 = 2 := by rw [← b8.len, l_h2]
  have o8 := Lib.hid (o7.out.ext e8)
  have x8 : Hid (Below (r + 1) w1 w8) := x7.out.trans (e8.mono (EQ.out _ x7.out).2.2)
  have r8 := (EQ.out _ x8.out).2.2
  replace b8 := Lib.hid b8
  clear o7 x7 e8 f7 H2
  go_upto_region 7 with (at_builtin; (with_reducible refine wpList_append_bs rfl (B := r + 1) (s := .tmp 29) (x := .tmp 34) rfl rfl rfl o8.out b8.out (by omega) r8 ?_); intro A9 c9 w9 o9 g9 b9; replace o9 := Lib.hid o9; clear g9; replace b9 := Lib.hid b9; go_frame)
  refine wp_gen (fun W => Own (r + 1) W A9 (2 + 32 + 40 + 2) c9 (((xy ++ cm) ++ hl) ++ h2) ∧ Below (r + 1) w1 W) ⟨o9.out, x8.out.trans b9.out⟩ ?_
  clear o9 b9 x8 o8 b8 r8
  rintro v1 ⟨o1, y1⟩
  obtain ⟨kv, xv, rv⟩ := EQ.out _ y1
  have fv := kv.cell c68.out
  have bv := Lib.hid (BX.out _ xv)
  clear kv xv
  replace o1 := Lib.hid o1
  replace y1 := Lib.hid y1
  go_wp2_with (at_builtin; (with_reducible refine wpList_append_bs rfl (B := r + 1) (s := .tmp 36) (x := .tmp 38) rfl rfl rfl o1.out bv.out (by omega) rv ?_); intro A5 c5 v2 o2 g2 b2; replace o2 := Lib.hid o2; clear g2; replace b2 := Lib.hid b2; go_frame)
  go_ret2
  exact ⟨A5, _, c5, rfl, by rw [← hR.out]; exact o2.out.bs, (EQ.out _ (y1.out.trans b2.out)).2.1⟩
end Go.Proofs.YtbnjmmefnjoofaaDoor
end

section
/-
  head.Bytes and head.Envelope, whole, and the document's.
-/
namespace Go.Proofs.YtbnjmmefnjoofaaDoor
open Go.ChangeShapes Go.WideShapes Go.ChangeAt Go.RowKit Go.Deep
set_option maxRecDepth 100000

def hbE (p n : Int) : Int := if okH p n then 0 else 1
def hbX (pk : List UInt8) (p n : Int) : List UInt8 := if okH p n then headL pk p.toNat n.toNat else []
def enE (f t p n : Int) (m : Nat) : Int := if okE f t p n m then 0 else 1
def enX (f t : Int) (cm pk : List UInt8) (p n : Int) (body : List UInt8) : List UInt8 := if okE f t p n body.length then envL (UInt8.ofNat f.toNat) (UInt8.ofNat t.toNat) cm pk p.toNat n.toNat body else []
theorem okH_nat {p n : Int} (h : okH p n = true) : ∃ a b : Nat, p = (a : Int) ∧ n = (b : Int) ∧ a ≤ 1000000 ∧ b ≤ 1000000 := by
  unfold okH upB at h
  simp only [Bool.and_eq_true, decide_eq_true_eq] at h
  exact ⟨p.toNat, n.toNat, by omega, by omega, by omega, by omega⟩
theorem okE_nat {f t p n : Int} {m : Nat} (h : okE f t p n m = true) : ∃ (x y : UInt8) (a b : Nat), f = (x.toNat : Int) ∧ t = (y.toNat : Int) ∧ p = (a : Int) ∧ n = (b : Int) ∧ x.toNat ≤ 7 ∧ y.toNat ≤ 7 ∧ a ≤ 1000000 ∧ b ≤ 1000000 ∧ m ≤ 600 ∧ x = UInt8.ofNat f.toNat ∧ y = UInt8.ofNat t.toNat := by
  unfold okE at h
  simp only [Bool.and_eq_true] at h
  obtain ⟨h1, h2, h3, h4⟩ := h
  obtain ⟨a, b, rfl, rfl, ha, hb⟩ := okH_nat h3
  unfold upB at h1 h2
  simp only [Bool.and_eq_true, decide_eq_true_eq] at h1 h2 h4
  have e1 : (UInt8.ofNat f.toNat).toNat = f.toNat := by rw [UInt8.toNat_ofNat']; omega
  have e2 : (UInt8.ofNat t.toNat).toNat = t.toNat := by rw [UInt8.toNat_ofNat']; omega
  exact ⟨UInt8.ofNat f.toNat, UInt8.ofNat t.toNat, a, b, by omega, by omega, rfl, rfl, by omega, by omega, ha, hb, by omega, rfl, rfl⟩
theorem hbytes_calls {w : World} {pk : List UInt8} {p n : Int} (lp : pk.length = 32) : Calls Tryd.prog 68 #[.agg (hdC pk p n).toArray] w (RetBsE (hbX pk p n) (hbE p n) w) := by
  rcases h : okH p n with _ | _
  · unfold hbX hbE
    rw [h]
    exact (headBytes_bad lp h).mono fun e w' q => ⟨none, 0, 0, q.1, Bs.nil _, q.2⟩
  · obtain ⟨a, b, rfl, rfl, ha, hb⟩ := okH_nat h
    unfold hbX hbE
    rw [h]
    exact headBytes_ok lp ha hb
theorem rbytes_calls {w : World} {pk : List UInt8} {p n : Int} (lp : pk.length = 32) : Calls Tryd.prog 79 #[.agg (hdC pk p n).toArray] w (RetBsE (hbX pk p n) (hbE p n) w) := by
  rcases h : okH p n with _ | _
  · unfold hbX hbE
    rw [h]
    exact (refBytes_bad lp h).mono fun e w' q => ⟨none, 0, 0, q.1, Bs.nil _, q.2⟩
  · obtain ⟨a, b, rfl, rfl, ha, hb⟩ := okH_nat h
    unfold hbX hbE
    rw [h]
    exact refBytes_ok lp ha hb
theorem henv_calls {w : World} {f t p n : Int} {cm pk body : List UInt8} {A : Option Addr} {m c : Nat} (hc : cm.length = 32) (hk : pk.length = 32) (hb : Bs w A m c body) :
    Calls Tryd.prog 42 #[.agg (evC f t cm pk p n A m c).toArray] w (RetBsE (enX f t cm pk p n body) (enE f t p n m) w) := by
  have lm := hb.len
  have hm : m ≤ 9223372036854775807 := Nat.le_trans hb.le hb.cap
  rcases h : okE f t p n m with _ | _
  · unfold enX enE
    rw [lm, h]
    exact (envelope_bad hc hk hm h).mono fun e w' q => ⟨none, 0, 0, q.1, Bs.nil _, q.2⟩
  · obtain ⟨x, y, a, b, h1, h2, rfl, rfl, hx, hy, ha, hb', hm', e1, e2⟩ := okE_nat h
    unfold enX enE
    rw [lm, h, ← e1, ← e2, h1, h2]
    exact envelope_ok hc hk hx hy ha hb' hb hm'
theorem renv_calls {w : World} {f t p n : Int} {cm pk body : List UInt8} {A : Option Addr} {m c : Nat} (hc : cm.length = 32) (hk : pk.length = 32) (hb : Bs w A m c body) :
    Calls Tryd.prog 56 #[.agg (evC f t cm pk p n A m c).toArray] w (RetBsE (enX f t cm pk p n body) (enE f t p n m) w) := by
  have lm := hb.len
  have hm : m ≤ 9223372036854775807 := Nat.le_trans hb.le hb.cap
  rcases h : okE f t p n m with _ | _
  · unfold enX enE
    rw [lm, h]
    exact (refEnvelope_bad hc hk hm h).mono fun e w' q => ⟨none, 0, 0, q.1, Bs.nil _, q.2⟩
  · obtain ⟨x, y, a, b, h1, h2, rfl, rfl, hx, hy, ha, hb', hm', e1, e2⟩ := okE_nat h
    unfold enX enE
    rw [lm, h, ← e1, ← e2, h1, h2]
    exact refEnvelope_ok hc hk hx hy ha hb' hb hm'
end Go.Proofs.YtbnjmmefnjoofaaDoor
end
