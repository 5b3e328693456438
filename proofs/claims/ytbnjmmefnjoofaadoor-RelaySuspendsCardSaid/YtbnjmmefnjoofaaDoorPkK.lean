import Derived.Test.YtbnjmmefnjoofaaDoorPkN
import Derived.Test.YtbnjmmefnjoofaaDoorPkP
import Derived.Test.YtbnjmmefnjoofaaDoorMl
import Derived.Test.YtbnjmmefnjoofaaDoorPkL
section
/-
  A key is filled from a slice that is long enough. No conditions.
-/
namespace Go.Proofs.YtbnjmmefnjoofaaDoor
open Go.ChangeShapes Go.WideShapes Go.ChangeAt Go.RowKit Go.Deep
set_option maxRecDepth 100000

/-- A key is filled from a longer slice. -/
theorem upon_copy_keyK {o : Oper} {a : Act} {K : Act → World → Prop} {Q : Exit → Act → World → Prop} {W : World} {g dCap : Nat} {cur : Array Value} {t dT sT ty : TypeId} {A : Option Addr} {n c : Nat} {xs : List UInt8} (hu : Tryd.prog.underlying dT = some (.slice 5)) (hg : W.heap[g]? = some (.cells cur t (0, 0))) (h : Bs W A n c xs) (hn : 32 ≤ n) (hc : cur.size = 32)
    (H : Oper.upon Tryd.prog o a K Q (.ok (Next.value (goInt 32)) (W.setRow g (cellsOf (xs.take 32)).toArray))) :
    Oper.upon Tryd.prog o a K Q (((Builtin.copy_ #[dT, sT] ty #[.slice (some ⟨g, 0, none⟩) 32 dCap, .slice A n c]).run Tryd.prog W).andThen fun a w' => .ok (Next.value a) w') := by
  have hl := h.len
  obtain ⟨b, o', rfl, hb, hcl⟩ := h.pos (by omega)
  have hsz : (Tryd.prog.info? 5).map (·.size) = some 1 := rfl
  have hL : (cellsOf (xs.take 32)).length = 32 := by rw [cellsOf_len, List.length_take]; omega
  have hr := run_copy_row Tryd.prog W dT sT ty _ g 0 32 dCap ⟨b, o', none⟩ n c cur t (cellsOf (xs.take 32)) hu hsz hg (by rw [hL]; exact (Nat.min_eq_right hn).symm) (fun j v hv => by
    have hj : j < 32 := by
      have := (List.getElem?_eq_some_iff.1 hv).1
      rwa [hL] at this
    rw [cellsOf_get (by rw [List.length_take]; omega), bt_take hj] at hv
    injection hv with hv
    subst hv
    have : (⟨b, o', none⟩ : Addr).add j = ⟨b, o' + j, none⟩ := by unfold Addr.add; split <;> simp_all
    rw [this]
    exact hcl j (by omega)) (by rw [hL]; omega) (fun v hv => by
    obtain ⟨j, _, rfl⟩ := List.mem_map.1 hv
    rfl)
  have he : (cur.toList.take 0 ++ cellsOf (xs.take 32) ++ cur.toList.drop (0 + (cellsOf (xs.take 32)).length)) = cellsOf (xs.take 32) := by
    rw [hL, List.drop_of_length_le (by simp [hc])]; simp
  rw [he, hL] at hr
  rw [hr]
  exact H

end Go.Proofs.YtbnjmmefnjoofaaDoor
end

section
/-
  Results that are two keys; regions in which two blocks turn.
-/
namespace Go.Proofs.YtbnjmmefnjoofaaDoor
open Go.ChangeShapes Go.WideShapes Go.ChangeAt Go.RowKit Go.Deep

theorem results_rr {P : Program} {fn : Func} {p q : Tmp} {ty : TypeId} (h : fn.results = #[.cell p ty, .cell q ty]) (tmps : Array Value) (w : World) (g g' : Nat) (t t' : TypeId) (cs cs' : Array Value) (fr fr' : Nat × Nat) (d : TypeDesc)
    (hp : tmps.getD p undef = .pointer (some ⟨g, 0, none⟩)) (hq : tmps.getD q undef = .pointer (some ⟨g', 0, none⟩)) (hg : w.heap[g]? = some (.cells cs t fr)) (hg' : w.heap[g']? = some (.cells cs' t' fr'))
    (hu : P.underlying ty = some d) (hd : (match d with | .struct _ | .array _ _ => true | _ => false) = true) (hi : (P.info? ty).map (·.size) = some cs.size) (hi' : (P.info? ty).map (·.size) = some cs'.size) :
    (results fn tmps).run P w = .ok (.tuple #[.agg cs, .agg cs']) w := by
  have hp' : tmps[p]?.getD undef = .pointer (some ⟨g, 0, none⟩) := by simpa using hp
  have hq' : tmps[q]?.getD undef = .pointer (some ⟨g', 0, none⟩) := by simpa using hq
  simp [results, h, hp', hq', asAddr, run_loadVar_row w g t ty cs fr d hg hu hd hi, run_loadVar_row w g' t' ty cs' fr' d hg' hu hd hi', Sem.run_bind, Result.andThen]
theorem results_trt {P : Program} {fn : Func} {u p v : Tmp} {ty : TypeId} (h : fn.results = #[.tmp u, .cell p ty, .tmp v]) (tmps : Array Value) (w : World) (g : Nat) (t : TypeId) (cs : Array Value) (fr : Nat × Nat) (d : TypeDesc) (x y : Value)
    (hx : tmps.getD u undef = x) (hp : tmps.getD p undef = .pointer (some ⟨g, 0, none⟩)) (hy : tmps.getD v undef = y) (hg : w.heap[g]? = some (.cells cs t fr))
    (hu : P.underlying ty = some d) (hd : (match d with | .struct _ | .array _ _ => true | _ => false) = true) (hi : (P.info? ty).map (·.size) = some cs.size) :
    (results fn tmps).run P w = .ok (.tuple #[x, .agg cs, y]) w := by
  have hp' : tmps[p]?.getD undef = .pointer (some ⟨g, 0, none⟩) := by simpa using hp
  have hx' : tmps[u]?.getD undef = x := by simpa using hx
  have hy' : tmps[v]?.getD undef = y := by simpa using hy
  simp [results, h, hp', hx', hy', asAddr, run_loadVar_row w g t ty cs fr d hg hu hd hi, Sem.run_bind, Result.andThen]

/-- Only blocks g and g' turn. -/
def Two (g g' : Nat) (a b : World) : Prop := b.os = a.os ∧ b.tape = a.tape ∧ b.output = a.output ∧ a.heap.size ≤ b.heap.size ∧ ∀ i, i < a.heap.size → i ≠ g → i ≠ g' → b.heap[i]? = a.heap[i]?
theorem Two.refl (g g' : Nat) (w : World) : Two g g' w w := ⟨rfl, rfl, rfl, Nat.le_refl _, fun _ _ _ _ => rfl⟩
theorem Two.trans {g g' : Nat} {a b c : World} (h : Two g g' a b) (k : Two g g' b c) : Two g g' a c :=
  ⟨k.1.trans h.1, k.2.1.trans h.2.1, k.2.2.1.trans h.2.2.1, Nat.le_trans h.2.2.2.1 k.2.2.2.1, fun i hi h1 h2 => (k.2.2.2.2 i (Nat.lt_of_lt_of_le hi h.2.2.2.1) h1 h2).trans (h.2.2.2.2 i hi h1 h2)⟩
theorem Two.of_ext {g g' : Nat} {a b : World} (h : Ext a b) : Two g g' a b := ⟨h.os, h.tape, h.output, h.size, fun i hi _ _ => h.block i hi⟩
theorem Two.row {g g' : Nat} (w : World) (C : Array Value) : Two g g' w (w.setRow g C) := ⟨rfl, rfl, rfl, by simp, fun i _ h1 _ => setRow_other _ _ _ _ h1⟩
theorem Two.row' {g g' : Nat} (w : World) (C : Array Value) : Two g g' w (w.setRow g' C) := ⟨rfl, rfl, rfl, by simp, fun i _ _ h1 => setRow_other _ _ _ _ h1⟩
theorem Two.ext {g g' : Nat} {w0 a b : World} (h : Ext w0 a) (k : Two g g' a b) (h1 : w0.heap.size ≤ g) (h2 : w0.heap.size ≤ g') : Ext w0 b :=
  Below.trans h ⟨k.1, k.2.1, k.2.2.1, k.2.2.2.1, fun i hi => k.2.2.2.2 i (Nat.lt_of_lt_of_le hi h.size) (by omega) (by omega)⟩
theorem Two.block {g g' i : Nat} {a b : World} (k : Two g g' a b) {o : Obj} (h : a.heap[i]? = some o) (h1 : i ≠ g) (h2 : i ≠ g') : b.heap[i]? = some o := (k.2.2.2.2 i (heap_lt h) h1 h2).trans h
end Go.Proofs.YtbnjmmefnjoofaaDoor
end

section
/-
  mailbox.copied: an envelope with bytes of its own.
-/
namespace Go.Proofs.YtbnjmmefnjoofaaDoor
open Go.ChangeShapes Go.WideShapes Go.ChangeAt Go.RowKit Go.Deep
set_option maxRecDepth 100000

def zWm : Wm := ⟨⟨0, 0, 0, List.replicate 32 0, List.replicate 32 0, 0, 0, [], 0, 0, 0, 0, List.replicate 32 0, List.replicate 32 0⟩, none, 0⟩
def zM : List Value := zWm.C
theorem zM_len : zM.length = 138 := by kernel_rfl
theorem mail_alloc (w : World) : (zeroValue 73).run Tryd.prog w = .ok (.agg zM.toArray) w := by kernel_rfl
theorem splice_all {α : Type} {x y : List α} (h : x.length = y.length) : splice x 0 y = y := by
  unfold splice
  rw [List.take_zero, List.nil_append, Nat.zero_add, ← h, List.drop_length, List.append_nil]
theorem bsF_cells {w : World} {g n : Nat} {xs : List UInt8} {B : Nat} (h : w.heap[g]? = some (.cells (cellsOf xs).toArray 5 (0, 0))) (hl : xs.length = n) (hn : n ≤ 1000000) (hB : B ≤ g) : BsF B w (some ⟨g, 0, none⟩) n n xs :=
  ⟨⟨hl, Nat.le_refl _, by unfold maxLen; omega, fun _ => ⟨g, 0, rfl, heap_lt h, fun j hj => by
    rw [cell_of_row w g _ _ _ _ h, List.getElem?_toArray, Nat.zero_add, cellsOf_get (by omega)]⟩⟩, fun _ q hq => by cases hq; exact ⟨hB, _, h⟩⟩
set_option maxHeartbeats 4000000 in
theorem copied_calls {w : World} {x : Wm} (hx : x.d.ok) (hb : Bs w x.A x.d.body.length x.c x.d.body) :
    Calls Tryd.prog 62 #[.agg x.C.toArray] w fun e w' => ∃ A c, e = .returned (.agg (⟨x.d, A, c⟩ : Wm).C.toArray) ∧ BsF w.heap.size w' A x.d.body.length c x.d.body ∧ Ext w w' := by
  have hal := mail_alloc
  have L_z := zM_len
  have L_C := x.C_len hx
  have O_C : Hid (∀ A c, ∀ v ∈ (⟨x.d, A, c⟩ : Wm).C, v.oneCell' = true) := fun A c => Wm.one _
  have G69 : Hid (x.C[69]? = some (.slice x.A x.d.body.length x.c)) := Wm.c69 hx
  have S69 : Hid (∀ A c, x.C.set 69 (.slice A x.d.body.length c) = (⟨x.d, A, c⟩ : Wm).C) := fun A c => Wm.set69 hx A c
  have L_D : Hid (∀ A c, (⟨x.d, A, c⟩ : Wm).C.length = 138) := fun A c => Wm.C_len (x := ⟨x.d, A, c⟩) hx
  have hn : x.d.body.length ≤ 1000 := hx.2.2
  generalize x.C = CX at *
  generalize hF : (fun (A : Option Addr) (c : Nat) => (⟨x.d, A, c⟩ : Wm).C) = F at *
  have hF' : ∀ A c, (⟨x.d, A, c⟩ : Wm).C = F A c := fun A c => by rw [← hF]
  simp only [hF'] at O_C S69 L_D ⊢
  clear hF hF' hx
  have hmk := make8 x.d.body.length (by omega)
  have q1 := hb.le
  have q2 := hb.cap
  replace hb := Lib.hid hb
  generalize hn' : x.d.body.length = n at *
  generalize x.d.body = body at *
  replace hn' := Lib.hid hn'.symm
  generalize x.A = A at *
  generalize x.c = c at *
  clear x
  generalize zM = Z at *
  obtain ⟨r, hr⟩ : ∃ r, r = w.heap.size := ⟨_, rfl⟩
  have B0 : Hid (Cb ((w.alloc (Obj.cells CX.toArray 73)).alloc (Obj.cells Z.toArray 73)) r 73 CX ∧ Cb ((w.alloc (Obj.cells CX.toArray 73)).alloc (Obj.cells Z.toArray 73)) (r + 1) 73 Z ∧ Ext w ((w.alloc (Obj.cells CX.toArray 73)).alloc (Obj.cells Z.toArray 73))) := by
    rw [hr]; exact ⟨heap_alloc1 _ _ _, heap_alloc2 _ _ _, ((Ext.refl w).alloc _).alloc _⟩
  go_enter Tryd.func62, Tryd.ntmps62
  go_upto_region 1 with fail
  refine wp_gen (fun W => Cb W r 73 CX ∧ Cb W (r + 1) 73 Z ∧ Ext w W) B0.out ?_
  rw [← hr]
  have wr : w.heap.size ≤ r := Nat.le_of_eq hr.symm
  clear B0
  replace hr := Lib.hid hr
  rintro w0 ⟨k0, k1, x0⟩
  have b0 := k0.cell G69.out
  have B1 : Hid (Cb (w0.alloc (.cells (madeCells #[.int .u8 0] n) 5)) r 73 CX ∧ Cb (w0.alloc (.cells (madeCells #[.int .u8 0] n) 5)) (r + 1) 73 Z ∧ Cb (w0.alloc (.cells (madeCells #[.int .u8 0] n) 5)) w0.heap.size 5 (madeCells #[.int .u8 0] n).toList ∧ Ext w (w0.alloc (.cells (madeCells #[.int .u8 0] n) 5))) :=
    ⟨k0.ext ((Ext.refl w0).alloc _), k1.ext ((Ext.refl w0).alloc _), by unfold Cb; rw [Array.toArray_toList]; exact heap_alloc_new _ _, x0.alloc _⟩
  have rs : r + 1 < w0.heap.size := k1.lt
  clear k0 k1 x0
  go_upto_region 2 with fail
  refine wp_gen (fun W => Cb W r 73 CX ∧ Cb W (r + 1) 73 Z ∧ Cb W w0.heap.size 5 (madeCells #[.int .u8 0] n).toList ∧ Ext w W) B1.out ?_
  generalize w0.heap.size = s at *
  clear b0 B1 w0
  have L_m : (madeCells #[.int .u8 0] n).toList.length = n := by simp [madeCells]
  generalize (madeCells #[.int .u8 0] n).toList = M at *
  rintro w1 ⟨k0, k1, k2, x1⟩
  have b0 := k0.cell G69.out
  replace k0 := Lib.hid k0
  replace k1 := Lib.hid k1
  replace k2 := Lib.hid k2
  replace x1 := Lib.hid x1
  go_wp2_with fail
  refine upon_copy (cur := M) rfl k2.out (hb.out.ext x1.out) (Nat.le_refl _) (by omega) ?_
  intro w2 h1 h2
  rw [splice_all (by rw [cellsOf_len, L_m]; exact hn'.out)] at h1
  have K2 : Hid (Cb w2 r 73 CX ∧ Cb w2 (r + 1) 73 Z ∧ Cb w2 s 5 (cellsOf body) ∧ Ext w w2) := ⟨((h2.out s (Nat.le_refl _)).block _ (by omega)).trans k0.out, ((h2.out s (Nat.le_refl _)).block _ (by omega)).trans k1.out, h1.out, Below.trans x1.out (h2.out _ (by omega))⟩
  clear k0 k1 k2 x1 h1 h2 b0
  obtain ⟨k0, k1, k2, x2⟩ := K2.out
  clear K2
  have b0 := k0.cell G69.out
  have f0 := k0.frozen 69
  have K3 : Hid (Cb (w2.setCell ⟨r, 69, none⟩ (.slice (some ⟨s, 0, none⟩) n n)) r 73 (F (some ⟨s, 0, none⟩) n) ∧ Cb (w2.setCell ⟨r, 69, none⟩ (.slice (some ⟨s, 0, none⟩) n n)) (r + 1) 73 Z ∧ Cb (w2.setCell ⟨r, 69, none⟩ (.slice (some ⟨s, 0, none⟩) n n)) s 5 (cellsOf body) ∧ Ext w (w2.setCell ⟨r, 69, none⟩ (.slice (some ⟨s, 0, none⟩) n n))) := by
    refine ⟨?_, (Below.heap_setCell _ _ _ _ (show r + 1 ≠ r by omega)).trans k1, (Below.heap_setCell _ _ _ _ (show s ≠ r by omega)).trans k2, x2.setCell wr _⟩
    rw [← S69.out]
    exact k0.setCell
  clear k0 k1 k2 x2
  go_upto_region 4 with fail
  refine wp_gen (fun W => Cb W r 73 (F (some ⟨s, 0, none⟩) n) ∧ Cb W (r + 1) 73 Z ∧ Cb W s 5 (cellsOf body) ∧ Ext w W) K3.out ?_
  clear K3 b0 f0 w2
  rintro w3 ⟨k0, k1, k2, x3⟩
  have L_E := L_D.out (some ⟨s, 0, none⟩) n
  have O_E := one_cells (O_C.out (some ⟨s, 0, none⟩) n)
  have fin : Hid (BsF w.heap.size (w3.setRow (r + 1) (F (some ⟨s, 0, none⟩) n).toArray) (some ⟨s, 0, none⟩) n n body ∧ Ext w (w3.setRow (r + 1) (F (some ⟨s, 0, none⟩) n).toArray)) := ⟨bsF_cells (k2.row (by omega)) hn'.out.symm (by omega) (by omega), below_setRow x3 (by omega) _⟩
  have fin0 : Hid (∀ E, E = F (some ⟨s, 0, none⟩) n → ∃ A c, Ending.returned (.agg E.toArray) = .returned (.agg (F A c).toArray) ∧ BsF w.heap.size (w3.setRow (r + 1) E.toArray) A n c body ∧ Ext w (w3.setRow (r + 1) E.toArray)) := fun E q => by subst q; exact ⟨_, _, rfl, fin.out.1, fin.out.2⟩
  clear fin x3 k2 O_C L_D S69 G69
  generalize F (some ⟨s, 0, none⟩) n = E at *
  replace fin0 := Lib.hid (fin0.out E rfl)
  replace k0 := Lib.hid k0
  replace k1 := Lib.hid k1
  have S_E : E.toArray.size = 138 := by rw [List.size_toArray]; exact L_E
  have S_Z : Z.toArray.size = 138 := by rw [List.size_toArray]; exact L_z
  go_wp2_with (first
    | (refine wpList_load_row rfl 73 _ rfl r rfl 73 E.toArray (0, 0) _ k0.out rfl rfl (by rw [S_E]; rfl) ?_; go_frame)
    | (refine wpList_store_row rfl 73 _ _ rfl (r + 1) E.toArray rfl rfl 73 Z.toArray k1.out (by rw [S_E]; rfl) (by rw [S_E, S_Z]) O_E ?_; simp only [Act.put]))
  (try simp only [Exit.inBlock, Exit.then])
  refine bodyPost_ret (results_cell_row rfl _ _ (r + 1) 73 E.toArray (0, 0) _ rfl (setRow_heap _ _ _ _ _ _ k1.out) rfl rfl (by rw [S_E]; rfl)) rfl ?_
  exact fin0.out
end Go.Proofs.YtbnjmmefnjoofaaDoor
end

section
/-
  Slices whose elements have several cells: read. No conditions.
-/
namespace Go.Proofs.YtbnjmmefnjoofaaDoor
open Go.ChangeShapes Go.WideShapes Go.ChangeAt Go.RowKit Go.Deep
set_option maxRecDepth 100000

/-- The slice reads as elements with the cells of K, s each. -/
def Cs (w : World) (s : Nat) (A : Option Addr) (n c : Nat) (K : List (List Value)) : Prop :=
  (K.length = n ∧ (∀ x ∈ K, x.length = s)) ∧ (n ≤ c ∧ c ≤ maxLen) ∧ (0 < n → ∃ b off, A = some ⟨b, off, none⟩ ∧ b < w.heap.size ∧ ∀ q v, K.flatten[q]? = some v → w.cell? ⟨b, off + q, none⟩ = some v)
section
variable {w w' : World} {s : Nat} {A : Option Addr} {n c : Nat} {K : List (List Value)}
theorem Cs.ext (h : Cs w s A n c K) (e : Ext w w') : Cs w' s A n c K := ⟨h.1, h.2.1, fun h0 => by
  obtain ⟨b, off, hA, hb, hc⟩ := h.2.2 h0
  exact ⟨b, off, hA, Nat.lt_of_lt_of_le hb e.size, fun q v hq => (e.cell hb).trans (hc q v hq)⟩⟩
theorem flatten_len {α : Type} {s : Nat} : ∀ {L : List (List α)}, (∀ x ∈ L, x.length = s) → L.flatten.length = L.length * s
  | [], _ => by simp
  | x :: L, h => by
    rw [List.flatten_cons, List.length_append, h x (List.mem_cons_self ..), flatten_len fun y hy => h y (List.mem_cons_of_mem _ hy), List.length_cons, Nat.add_mul]
    omega
theorem OwnC.cs {B : Nat} {e : TypeId} (h : OwnC B w e s A n c K) : Cs w s A n c K := by
  refine ⟨⟨h.2.2, h.2.1⟩, h.cap, fun h0 => ?_⟩
  obtain ⟨b, hA, hb, _, hc⟩ := h.cells h0
  exact ⟨b, 0, hA, hb, fun q v hq => by rw [Nat.zero_add]; exact hc q v hq⟩
/-- Cell i of element j. -/
theorem Cs.at (h : Cs w s A n c K) {j : Nat} (hj : j < n) : ∃ b off, A = some ⟨b, off, none⟩ ∧ b < w.heap.size ∧ ∀ i v, (K.getD j [])[i]? = some v → w.cell? ⟨b, off + j * s + i, none⟩ = some v := by
  obtain ⟨b, off, hA, hb, hc⟩ := h.2.2 (by omega)
  refine ⟨b, off, hA, hb, fun i v hi => ?_⟩
  have hl : (K.getD j []).length = s := by
    have q : j < K.length := by rw [h.1.1]; exact hj
    rw [List.getD_eq_getElem?_getD, List.getElem?_eq_getElem q]
    exact h.1.2 _ (List.getElem_mem q)
  have his : i < s := by rw [← hl]; exact (List.getElem?_eq_some_iff.1 hi).1
  rw [Nat.add_assoc]
  exact hc _ _ ((flat_at h.1.2 (by rw [h.1.1]; exact hj) his).trans hi)
theorem Cs.take (h : Cs w s A n c K) {k : Nat} (hk : k ≤ n) : Cs w s A k c (K.take k) := by
  have h2 := h.2.1
  refine ⟨⟨by rw [List.length_take, h.1.1]; omega, fun x hx => h.1.2 x (List.mem_of_mem_take hx)⟩, ⟨by omega, h2.2⟩, fun h0 => ?_⟩
  obtain ⟨b, off, hA, hb, hc⟩ := h.2.2 (by omega)
  refine ⟨b, off, hA, hb, fun q v hq => hc q v ?_⟩
  have e : K.flatten = (K.take k).flatten ++ (K.drop k).flatten := by rw [← List.flatten_append, List.take_append_drop]
  rw [e, List.getElem?_append_left (List.getElem?_eq_some_iff.1 hq).1]
  exact hq
end
end Go.Proofs.YtbnjmmefnjoofaaDoor
end
