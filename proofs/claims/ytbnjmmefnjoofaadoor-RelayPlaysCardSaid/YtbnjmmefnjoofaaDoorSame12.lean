import Derived.Test.YtbnjmmefnjoofaaDoorPkP
import Derived.Test.YtbnjmmefnjoofaaDoorPkI
import Derived.Stop.BytesEq
/-
  Two heads are compared; palfreyref12.Same.
-/
namespace Go.Proofs.YtbnjmmefnjoofaaDoor
open Go.ChangeShapes Go.WideShapes Go.ChangeAt Go.RowKit Go.Deep
set_option maxRecDepth 100000

theorem head_fields : ∃ f g k : Field, (Tryd.prog.fieldsOf 34).toList = [f, g, k] ∧ (f.type = 23 ∧ f.offset = 0 ∧ f.name ≠ "_") ∧ (g.type = 3 ∧ g.offset = 32 ∧ g.name ≠ "_") ∧ (k.type = 3 ∧ k.offset = 33 ∧ k.name ≠ "_") := by
  have h : ((Tryd.prog.fieldsOf 34).toList.map fun f => (f.name, f.type, f.offset)) = [("Public", 23, 0), ("Prev", 3, 32), ("N", 3, 33)] := by kernel_rfl
  match hl : (Tryd.prog.fieldsOf 34).toList with
  | [] => rw [hl] at h; simp at h
  | [f] => rw [hl] at h; simp at h
  | [f, g] => rw [hl] at h; simp at h
  | [f, g, k] =>
    rw [hl] at h
    simp only [List.map_cons, List.map_nil, List.cons.injEq, and_true, Prod.mk.injEq] at h
    exact ⟨f, g, k, rfl, ⟨h.1.2.1, h.1.2.2, by rw [h.1.1]; decide⟩, ⟨h.2.1.2.1, h.2.1.2.2, by rw [h.2.1.1]; decide⟩, ⟨h.2.2.2.1, h.2.2.2.2, by rw [h.2.2.1]; decide⟩⟩
  | f :: g :: k :: l :: r => rw [hl] at h; simp at h
/-- Are two heads the same? -/
def sameH (pk pk' : List UInt8) (p p' n n' : Int) : Bool := decide (pk = pk') && ((p == p') && (n == n'))
theorem head_equal {pk pk' : List UInt8} {p p' n n' : Int} (hx : pk.length = 32) (hy : pk'.length = 32) (w : World) :
    (Op.equalIn 10000 34 (.agg (hdC pk p n).toArray) (.agg (hdC pk' p' n').toArray)).run Tryd.prog w = .ok (sameH pk pk' p p' n n') w := by
  obtain ⟨f, g, k, hf, ⟨ht, ho, hn⟩, ⟨gt, go, gn⟩, ⟨kt, ko, kn⟩⟩ := head_fields
  have ex : ∀ {q : List UInt8} {a b : Int}, q.length = 32 → (hdC q a b).toArray.extract 0 (0 + 32) = (cellsOf q).toArray := fun {q a b} h => by
    rw [List.extract_toArray, List.extract, List.drop_zero]
    unfold hdC
    rw [Nat.zero_add, Nat.sub_zero, List.take_left' (by rw [cellsOf_len, h])]
  have e2 : ∀ {q : List UInt8} {a b : Int}, q.length = 32 → (hdC q a b).toArray[32]? = some (.int .i64 a) ∧ (hdC q a b).toArray[33]? = some (.int .i64 b) := fun {q a b} h => by
    rw [List.getElem?_toArray, List.getElem?_toArray]
    unfold hdC
    rw [List.getElem?_append_right (by rw [cellsOf_len, h]; omega), List.getElem?_append_right (by rw [cellsOf_len, h]; omega), cellsOf_len, h]
    exact ⟨rfl, rfl⟩
  have x1 := ex (a := p) (b := n) hx
  have x2 := ex (a := p') (b := n') hy
  have y1 := e2 (a := p) (b := n) hx
  have y2 := e2 (a := p') (b := n') hy
  generalize (hdC pk p n).toArray = K at *
  generalize (hdC pk' p' n').toArray = K' at *
  rw [run_equalIn_struct w 9999 34 _ _ (by kernel_rfl) (by kernel_rfl), hf]
  have i1 := int_equalF (d := 9998) (a := p) (b := p') w
  have i2 := int_equalF (d := 9998) (a := n) (b := n') w
  unfold sameH
  simp only [Op.eqFields, ht, ho, if_pos hn, gt, go, if_pos gn, kt, ko, if_pos kn, Sem.run_bind, part_keyF, part_intF y1.1, part_intF y1.2, part_intF y2.1, part_intF y2.2, Result.andThen_ok, x1, x2, key_equalF (d := 9997) hx hy, i1, i2]
  rcases decide (pk = pk') with _ | _
  · rfl
  simp only [Bool.not_true, Bool.false_eq_true, if_false, Sem.run_bind, part_intF y1.1, part_intF y2.1, Result.andThen_ok, i1]
  rcases (p == p') with _ | _
  · rfl
  simp only [Bool.not_true, Bool.false_eq_true, if_false, Sem.run_bind, part_intF y1.2, part_intF y2.2, Result.andThen_ok, i2]
  rcases (n == n') with _ | _
  · rfl
  · rfl
theorem head_guard : Tryd.prog.eqGuardType Tryd.prog.depth 34 = false := by kernel_rfl
theorem exec_eql_head {o : Oper} {a : Act} {w : World} {x y : Operand} {t' : TypeId} {pk pk' : List UInt8} {p p' n n' : Int} {L L' : List Value} {b : Bool} (hb : sameH pk pk' p p' n n' = b) (hL : L = hdC pk p n) (hL' : L' = hdC pk' p' n') (hp : pk.length = 32) (hq : pk'.length = 32) (ho : o.op = .binOp .eql 34 x y t') (hx : a.eval x = .agg L.toArray) (hy : a.eval y = .agg L'.toArray) :
    (execOp a.eval o).run Tryd.prog w = .ok (.value (.bool b)) w := by
  subst hL hL' hb
  unfold execOp
  simp only [ho, hx, hy, Sem.run_bind, run_eqGuard_agg _ _ _ _ _ _ _ head_guard, Result.andThen_ok, run_eql_struct, head_equal hp hq, Sem.run_pure]
theorem exec_neq_head {o : Oper} {a : Act} {w : World} {x y : Operand} {t' : TypeId} {pk pk' : List UInt8} {p p' n n' : Int} {L L' : List Value} {b : Bool} (hb : (!sameH pk pk' p p' n n') = b) (hL : L = hdC pk p n) (hL' : L' = hdC pk' p' n') (hp : pk.length = 32) (hq : pk'.length = 32) (ho : o.op = .binOp .neq 34 x y t') (hx : a.eval x = .agg L.toArray) (hy : a.eval y = .agg L'.toArray) :
    (execOp a.eval o).run Tryd.prog w = .ok (.value (.bool b)) w := by
  subst hL hL' hb
  unfold execOp
  simp only [ho, hx, hy, Sem.run_bind, run_eqGuard_agg _ _ _ _ _ _ _ head_guard, Result.andThen_ok, run_neq_struct, run_eql_struct, head_equal hp hq, Sem.run_pure]
theorem wpList_eql_headB {ops : Array Oper} {rest : List Oper} {o : Oper} {a : Act} {w : World} {Q : Exit → Act → World → Prop} (hw : Region.wanted o (yielded ops a.tmps) = true) (x y : Operand) (t' : TypeId) (ho : o.op = .binOp .eql 34 x y t') {pk pk' : List UInt8} {p p' n n' : Int} {L L' : List Value} {b : Bool} (hb : sameH pk pk' p p' n n' = b) (hL : L = hdC pk p n) (hL' : L' = hdC pk' p' n') (hx : a.eval x = .agg L.toArray) (hy : a.eval y = .agg L'.toArray) (hp : pk.length = 32) (hq : pk'.length = 32)
    (h : wpList Tryd.prog ops Q rest (a.put o.dst (.bool b)) w) : wpList Tryd.prog ops Q (o :: rest) a w := wpList_exec hw (exec_eql_head hb hL hL' hp hq ho hx hy) h
theorem wpList_neq_headB {ops : Array Oper} {rest : List Oper} {o : Oper} {a : Act} {w : World} {Q : Exit → Act → World → Prop} (hw : Region.wanted o (yielded ops a.tmps) = true) (x y : Operand) (t' : TypeId) (ho : o.op = .binOp .neq 34 x y t') {pk pk' : List UInt8} {p p' n n' : Int} {L L' : List Value} {b : Bool} (hb : (!sameH pk pk' p p' n n') = b) (hL : L = hdC pk p n) (hL' : L' = hdC pk' p' n') (hx : a.eval x = .agg L.toArray) (hy : a.eval y = .agg L'.toArray) (hp : pk.length = 32) (hq : pk'.length = 32)
    (h : wpList Tryd.prog ops Q rest (a.put o.dst (.bool b)) w) : wpList Tryd.prog ops Q (o :: rest) a w := wpList_exec hw (exec_neq_head hb hL hL' hp hq ho hx hy) h
theorem strL_toListS (xs : List UInt8) : (strL xs).toList = xs := by
  rw [ByteArray.toList_eq]
  rfl
/-- Are two envelopes the same? -/
def sameE (f f' t t' : Int) (cm cm' pk pk' : List UInt8) (p p' n n' : Int) (xs ys : List UInt8) : Bool := (f == f') && ((t == t') && (decide (cm = cm') && (sameH pk pk' p p' n n' && decide (xs = ys))))
theorem sameE_refl (f t : Int) (cm pk : List UInt8) (p n : Int) (xs : List UInt8) : sameE f f t t cm cm pk pk p p n n xs xs = true := by simp [sameE, sameH]
set_option maxHeartbeats 8000000 in
theorem same12_calls {w : World} {f f' t t' p p' n n' : Int} {cm cm' pk pk' xs ys : List UInt8} {A A' : Option Addr} {m c m' c' : Nat} (hc : cm.length = 32) (hk : pk.length = 32) (hc' : cm'.length = 32) (hk' : pk'.length = 32) (hb : Bs w A m c xs) (hb' : Bs w A' m' c' ys) :
    Calls Tryd.prog 27 #[.agg (evC f t cm pk p n A m c).toArray, .agg (evC f' t' cm' pk' p' n' A' m' c').toArray] w fun e w' => e = .returned (.bool (sameE f f' t t' cm cm' pk pk' p p' n n' xs ys)) ∧ Ext w w' := by
  obtain ⟨c0, c1, c68, ch, cc⟩ := ev_cells hc hk f t p n A m c
  obtain ⟨d0, d1, d68, dh, dc⟩ := ev_cells hc' hk' f' t' p' n' A' m' c'
  replace c0 := Lib.hid c0
  replace c1 := Lib.hid c1
  replace c68 := Lib.hid c68
  replace d0 := Lib.hid d0
  replace d1 := Lib.hid d1
  replace d68 := Lib.hid d68
  have L_h := hdC_len hk p n
  have L_h' := hdC_len hk' p' n'
  have l2 : ([Value.int .i64 f, .int .i64 t] ++ cellsOf cm).length = 34 := by simp [cellsOf_len, hc]
  have l2' : ([Value.int .i64 f', .int .i64 t'] ++ cellsOf cm').length = 34 := by simp [cellsOf_len, hc']
  have C34 : Hid (∀ (W : World) (g : Nat) T, Cb W g T (evC f t cm pk p n A m c) → (∀ j v, (hdC pk p n)[j]? = some v → W.cell? ⟨g, 34 + j, none⟩ = some v) ∧ (∀ j v, (cellsOf cm)[j]? = some v → W.cell? ⟨g, 2 + j, none⟩ = some v)) := fun W g T k => ⟨k.mid ch l2, k.mid cc rfl⟩
  have D34 : Hid (∀ (W : World) (g : Nat) T, Cb W g T (evC f' t' cm' pk' p' n' A' m' c') → (∀ j v, (hdC pk' p' n')[j]? = some v → W.cell? ⟨g, 34 + j, none⟩ = some v) ∧ (∀ j v, (cellsOf cm')[j]? = some v → W.cell? ⟨g, 2 + j, none⟩ = some v)) := fun W g T k => ⟨k.mid dh l2', k.mid dc rfl⟩
  clear ch cc dh dc l2 l2'
  have C_cm : (cellsOf cm).length = 32 := by rw [cellsOf_len, hc]
  have C_cm' : (cellsOf cm').length = 32 := by rw [cellsOf_len, hc']
  generalize evC f t cm pk p n A m c = ev at *
  generalize evC f' t' cm' pk' p' n' A' m' c' = ev' at *
  have CB := Lib.hid (fun (W : World) (e : Ext w W) => conv_bs (hb.ext e))
  have CB' := Lib.hid (fun (W : World) (e : Ext w W) => conv_bs (hb'.ext e))
  have hd5 : Hid (((strL xs).toList == (strL ys).toList) = decide (xs = ys)) := by
    unfold Hid
    rw [strL_toListS, strL_toListS]
    by_cases e : xs = ys <;> simp [e]
  have SE : Hid (∀ b3 b4 b5, decide (cm = cm') = b3 → sameH pk pk' p p' n n' = b4 → decide (xs = ys) = b5 → sameE f f' t t' cm cm' pk pk' p p' n n' xs ys = ((f == f') && ((t == t') && (b3 && (b4 && b5))))) := fun b3 b4 b5 h3 h4 h5 => by unfold sameE; rw [h3, h4, h5]
  obtain ⟨b3, h3⟩ : ∃ b, decide (cm = cm') = b := ⟨_, rfl⟩
  obtain ⟨b4, h4⟩ : ∃ b, sameH pk pk' p p' n n' = b := ⟨_, rfl⟩
  obtain ⟨b5, h5⟩ : ∃ b, decide (xs = ys) = b := ⟨_, rfl⟩
  have hR : Hid (sameE f f' t t' cm cm' pk pk' p p' n n' xs ys = ((f == f') && ((t == t') && (b3 && (b4 && b5))))) := SE.out _ _ _ h3 h4 h5
  replace hd5 : Hid (((strL xs).toList == (strL ys).toList) = b5) := by rw [← h5]; exact hd5
  clear SE h5 hb hb'
  replace h3 := Lib.hid (fun _ : Unit => h3)
  replace h4 := Lib.hid (fun _ : Unit => h4)
  generalize strL xs = sx at *
  generalize strL ys = sy at *
  generalize sameE f f' t t' cm cm' pk pk' p p' n n' xs ys = res at *
  obtain ⟨hd, hhd⟩ : ∃ hd, hd = hdC pk p n := ⟨_, rfl⟩
  obtain ⟨hd', hhd'⟩ : ∃ hd', hd' = hdC pk' p' n' := ⟨_, rfl⟩
  rw [← hhd] at C34 L_h
  rw [← hhd'] at D34 L_h'
  replace hhd := Lib.hid (fun _ : Unit => hhd)
  replace hhd' := Lib.hid (fun _ : Unit => hhd')
  obtain ⟨r, hr⟩ : ∃ r, r = w.heap.size := ⟨_, rfl⟩
  have B0 : Hid (Cb ((w.alloc (Obj.cells ev.toArray 37)).alloc (Obj.cells ev'.toArray 37)) r 37 ev ∧ Cb ((w.alloc (Obj.cells ev.toArray 37)).alloc (Obj.cells ev'.toArray 37)) (r + 1) 37 ev' ∧ Ext w ((w.alloc (Obj.cells ev.toArray 37)).alloc (Obj.cells ev'.toArray 37))) := by rw [hr]; exact ⟨heap_alloc1 _ _ _, heap_alloc2 _ _ _, ((Ext.refl w).alloc _).alloc _⟩
  go_enter Tryd.func27, Tryd.ntmps27
  go_upto_region 1 with fail
  refine wp_gen (fun W => Cb W r 37 ev ∧ Cb W (r + 1) 37 ev' ∧ Ext w W) B0.out ?_
  clear B0
  rw [← hr]
  clear hr
  generalize r + 1 = r2
  rintro w0 ⟨k0, j0, x0⟩
  have f0 := k0.cell c0.out
  have f1 := k0.cell c1.out
  have f8 := k0.cell c68.out
  have g0 := j0.cell d0.out
  have g1 := j0.cell d1.out
  have g8 := j0.cell d68.out
  have u3 := CB.out _ x0
  have u4 := CB'.out _ x0
  have M := Lib.hid (C34.out _ _ _ k0)
  have M' := Lib.hid (D34.out _ _ _ j0)
  replace x0 := Lib.hid x0
  clear k0 j0 CB CB' C34 D34
  rcases d1 : (f == f') with _ | _
  · skip
    have hb : Hid (res = false) := by unfold Hid; rw [hR.out, d1]; simp
    go_wp2_with (first
        | ((with_reducible refine wpList_load_mid (o := ⟨some 26, _, _, _, _, _⟩) (ty := 34) (x := .tmp 25) (g := r) (off := 34) (ys := hd) ?_ ?_ ?_ M.out.1 Tryd.underlying34 ?_ ?_ ?_); (· rfl); (· rfl); (· rfl); (· rfl); (· rw [L_h]; rfl); go_frame)
        | ((with_reducible refine wpList_load_mid (o := ⟨some 28, _, _, _, _, _⟩) (ty := 34) (x := .tmp 27) (g := r2) (off := 34) (ys := hd') ?_ ?_ ?_ M'.out.1 Tryd.underlying34 ?_ ?_ ?_); (· rfl); (· rfl); (· rfl); (· rfl); (· rw [L_h']; rfl); go_frame)
        | ((with_reducible refine wpList_load_mid (o := ⟨some 19, _, _, _, _, _⟩) (ty := 23) (x := .tmp 18) (g := r) (off := 2) (ys := cellsOf cm) ?_ ?_ ?_ M.out.2 Tryd.underlying23 ?_ ?_ ?_); (· rfl); (· rfl); (· rfl); (· rfl); (· rw [C_cm]; rfl); go_frame)
        | ((with_reducible refine wpList_load_mid (o := ⟨some 21, _, _, _, _, _⟩) (ty := 23) (x := .tmp 20) (g := r2) (off := 2) (ys := cellsOf cm') ?_ ?_ ?_ M'.out.2 Tryd.underlying23 ?_ ?_ ?_); (· rfl); (· rfl); (· rfl); (· rfl); (· rw [C_cm']; rfl); go_frame)
        | ((with_reducible refine wpList_eql_keyB (o := ⟨some 22, _, _, _, _, _⟩) ?_ (.tmp 19) (.tmp 21) 23 ?_ cm cm' true ?_ ?_ ?_ hc hc' ?_); (· rfl); (· rfl); (· exact h3.out ()); (· rfl); (· rfl); go_frame)
        | ((with_reducible refine wpList_eql_headB (o := ⟨some 29, _, _, _, _, _⟩) ?_ (.tmp 26) (.tmp 28) 34 ?_ (h4.out ()) (hhd.out ()) (hhd'.out ()) ?_ ?_ hk hk' ?_); (· rfl); (· rfl); (· rfl); (· rfl); go_frame))
    go_ret
    exact ⟨by rw [hb.out]; rfl, x0.out⟩
  · skip
    rcases d2 : (t == t') with _ | _
    · skip
      have hb : Hid (res = false) := by unfold Hid; rw [hR.out, d1, d2]; simp
      go_wp2_with (first
          | ((with_reducible refine wpList_load_mid (o := ⟨some 26, _, _, _, _, _⟩) (ty := 34) (x := .tmp 25) (g := r) (off := 34) (ys := hd) ?_ ?_ ?_ M.out.1 Tryd.underlying34 ?_ ?_ ?_); (· rfl); (· rfl); (· rfl); (· rfl); (· rw [L_h]; rfl); go_frame)
          | ((with_reducible refine wpList_load_mid (o := ⟨some 28, _, _, _, _, _⟩) (ty := 34) (x := .tmp 27) (g := r2) (off := 34) (ys := hd') ?_ ?_ ?_ M'.out.1 Tryd.underlying34 ?_ ?_ ?_); (· rfl); (· rfl); (· rfl); (· rfl); (· rw [L_h']; rfl); go_frame)
          | ((with_reducible refine wpList_load_mid (o := ⟨some 19, _, _, _, _, _⟩) (ty := 23) (x := .tmp 18) (g := r) (off := 2) (ys := cellsOf cm) ?_ ?_ ?_ M.out.2 Tryd.underlying23 ?_ ?_ ?_); (· rfl); (· rfl); (· rfl); (· rfl); (· rw [C_cm]; rfl); go_frame)
          | ((with_reducible refine wpList_load_mid (o := ⟨some 21, _, _, _, _, _⟩) (ty := 23) (x := .tmp 20) (g := r2) (off := 2) (ys := cellsOf cm') ?_ ?_ ?_ M'.out.2 Tryd.underlying23 ?_ ?_ ?_); (· rfl); (· rfl); (· rfl); (· rfl); (· rw [C_cm']; rfl); go_frame)
          | ((with_reducible refine wpList_eql_keyB (o := ⟨some 22, _, _, _, _, _⟩) ?_ (.tmp 19) (.tmp 21) 23 ?_ cm cm' true ?_ ?_ ?_ hc hc' ?_); (· rfl); (· rfl); (· exact h3.out ()); (· rfl); (· rfl); go_frame)
          | ((with_reducible refine wpList_eql_headB (o := ⟨some 29, _, _, _, _, _⟩) ?_ (.tmp 26) (.tmp 28) 34 ?_ (h4.out ()) (hhd.out ()) (hhd'.out ()) ?_ ?_ hk hk' ?_); (· rfl); (· rfl); (· rfl); (· rfl); go_frame))
      go_ret
      exact ⟨by rw [hb.out]; rfl, x0.out⟩
    · skip
      rcases b3 with _ | _
      · skip
        have hb : Hid (res = false) := by unfold Hid; rw [hR.out, d1, d2]; simp
        go_wp2_with (first
            | ((with_reducible refine wpList_load_mid (o := ⟨some 26, _, _, _, _, _⟩) (ty := 34) (x := .tmp 25) (g := r) (off := 34) (ys := hd) ?_ ?_ ?_ M.out.1 Tryd.underlying34 ?_ ?_ ?_); (· rfl); (· rfl); (· rfl); (· rfl); (· rw [L_h]; rfl); go_frame)
            | ((with_reducible refine wpList_load_mid (o := ⟨some 28, _, _, _, _, _⟩) (ty := 34) (x := .tmp 27) (g := r2) (off := 34) (ys := hd') ?_ ?_ ?_ M'.out.1 Tryd.underlying34 ?_ ?_ ?_); (· rfl); (· rfl); (· rfl); (· rfl); (· rw [L_h']; rfl); go_frame)
            | ((with_reducible refine wpList_load_mid (o := ⟨some 19, _, _, _, _, _⟩) (ty := 23) (x := .tmp 18) (g := r) (off := 2) (ys := cellsOf cm) ?_ ?_ ?_ M.out.2 Tryd.underlying23 ?_ ?_ ?_); (· rfl); (· rfl); (· rfl); (· rfl); (· rw [C_cm]; rfl); go_frame)
            | ((with_reducible refine wpList_load_mid (o := ⟨some 21, _, _, _, _, _⟩) (ty := 23) (x := .tmp 20) (g := r2) (off := 2) (ys := cellsOf cm') ?_ ?_ ?_ M'.out.2 Tryd.underlying23 ?_ ?_ ?_); (· rfl); (· rfl); (· rfl); (· rfl); (· rw [C_cm']; rfl); go_frame)
            | ((with_reducible refine wpList_eql_keyB (o := ⟨some 22, _, _, _, _, _⟩) ?_ (.tmp 19) (.tmp 21) 23 ?_ cm cm' false ?_ ?_ ?_ hc hc' ?_); (· rfl); (· rfl); (· exact h3.out ()); (· rfl); (· rfl); go_frame)
            | ((with_reducible refine wpList_eql_headB (o := ⟨some 29, _, _, _, _, _⟩) ?_ (.tmp 26) (.tmp 28) 34 ?_ (h4.out ()) (hhd.out ()) (hhd'.out ()) ?_ ?_ hk hk' ?_); (· rfl); (· rfl); (· rfl); (· rfl); go_frame))
        go_ret
        exact ⟨by rw [hb.out]; rfl, x0.out⟩
      · skip
        rcases b4 with _ | _
        · skip
          have hb : Hid (res = false) := by unfold Hid; rw [hR.out, d1, d2]; simp
          go_wp2_with (first
              | ((with_reducible refine wpList_load_mid (o := ⟨some 26, _, _, _, _, _⟩) (ty := 34) (x := .tmp 25) (g := r) (off := 34) (ys := hd) ?_ ?_ ?_ M.out.1 Tryd.underlying34 ?_ ?_ ?_); (· rfl); (· rfl); (· rfl); (· rfl); (· rw [L_h]; rfl); go_frame)
              | ((with_reducible refine wpList_load_mid (o := ⟨some 28, _, _, _, _, _⟩) (ty := 34) (x := .tmp 27) (g := r2) (off := 34) (ys := hd') ?_ ?_ ?_ M'.out.1 Tryd.underlying34 ?_ ?_ ?_); (· rfl); (· rfl); (· rfl); (· rfl); (· rw [L_h']; rfl); go_frame)
              | ((with_reducible refine wpList_load_mid (o := ⟨some 19, _, _, _, _, _⟩) (ty := 23) (x := .tmp 18) (g := r) (off := 2) (ys := cellsOf cm) ?_ ?_ ?_ M.out.2 Tryd.underlying23 ?_ ?_ ?_); (· rfl); (· rfl); (· rfl); (· rfl); (· rw [C_cm]; rfl); go_frame)
              | ((with_reducible refine wpList_load_mid (o := ⟨some 21, _, _, _, _, _⟩) (ty := 23) (x := .tmp 20) (g := r2) (off := 2) (ys := cellsOf cm') ?_ ?_ ?_ M'.out.2 Tryd.underlying23 ?_ ?_ ?_); (· rfl); (· rfl); (· rfl); (· rfl); (· rw [C_cm']; rfl); go_frame)
              | ((with_reducible refine wpList_eql_keyB (o := ⟨some 22, _, _, _, _, _⟩) ?_ (.tmp 19) (.tmp 21) 23 ?_ cm cm' true ?_ ?_ ?_ hc hc' ?_); (· rfl); (· rfl); (· exact h3.out ()); (· rfl); (· rfl); go_frame)
              | ((with_reducible refine wpList_eql_headB (o := ⟨some 29, _, _, _, _, _⟩) ?_ (.tmp 26) (.tmp 28) 34 ?_ (h4.out ()) (hhd.out ()) (hhd'.out ()) ?_ ?_ hk hk' ?_); (· rfl); (· rfl); (· rfl); (· rfl); go_frame))
          go_ret
          exact ⟨by rw [hb.out]; rfl, x0.out⟩
        · skip
          rcases b5 with _ | _
          · skip
            have hb : Hid (res = false) := by unfold Hid; rw [hR.out, d1, d2]; simp
            go_wp2_with (first
                | ((with_reducible refine wpList_load_mid (o := ⟨some 26, _, _, _, _, _⟩) (ty := 34) (x := .tmp 25) (g := r) (off := 34) (ys := hd) ?_ ?_ ?_ M.out.1 Tryd.underlying34 ?_ ?_ ?_); (· rfl); (· rfl); (· rfl); (· rfl); (· rw [L_h]; rfl); go_frame)
                | ((with_reducible refine wpList_load_mid (o := ⟨some 28, _, _, _, _, _⟩) (ty := 34) (x := .tmp 27) (g := r2) (off := 34) (ys := hd') ?_ ?_ ?_ M'.out.1 Tryd.underlying34 ?_ ?_ ?_); (· rfl); (· rfl); (· rfl); (· rfl); (· rw [L_h']; rfl); go_frame)
                | ((with_reducible refine wpList_load_mid (o := ⟨some 19, _, _, _, _, _⟩) (ty := 23) (x := .tmp 18) (g := r) (off := 2) (ys := cellsOf cm) ?_ ?_ ?_ M.out.2 Tryd.underlying23 ?_ ?_ ?_); (· rfl); (· rfl); (· rfl); (· rfl); (· rw [C_cm]; rfl); go_frame)
                | ((with_reducible refine wpList_load_mid (o := ⟨some 21, _, _, _, _, _⟩) (ty := 23) (x := .tmp 20) (g := r2) (off := 2) (ys := cellsOf cm') ?_ ?_ ?_ M'.out.2 Tryd.underlying23 ?_ ?_ ?_); (· rfl); (· rfl); (· rfl); (· rfl); (· rw [C_cm']; rfl); go_frame)
                | ((with_reducible refine wpList_eql_keyB (o := ⟨some 22, _, _, _, _, _⟩) ?_ (.tmp 19) (.tmp 21) 23 ?_ cm cm' true ?_ ?_ ?_ hc hc' ?_); (· rfl); (· rfl); (· exact h3.out ()); (· rfl); (· rfl); go_frame)
                | ((with_reducible refine wpList_eql_headB (o := ⟨some 29, _, _, _, _, _⟩) ?_ (.tmp 26) (.tmp 28) 34 ?_ (h4.out ()) (hhd.out ()) (hhd'.out ()) ?_ ?_ hk hk' ?_); (· rfl); (· rfl); (· rfl); (· rfl); go_frame))
            go_ret
            exact ⟨by rw [hb.out]; exact ret_bool hd5.out, x0.out⟩
          · skip
            have hb : Hid (res = true) := by unfold Hid; rw [hR.out, d1, d2]; rfl
            go_wp2_with (first
                | ((with_reducible refine wpList_load_mid (o := ⟨some 26, _, _, _, _, _⟩) (ty := 34) (x := .tmp 25) (g := r) (off := 34) (ys := hd) ?_ ?_ ?_ M.out.1 Tryd.underlying34 ?_ ?_ ?_); (· rfl); (· rfl); (· rfl); (· rfl); (· rw [L_h]; rfl); go_frame)
                | ((with_reducible refine wpList_load_mid (o := ⟨some 28, _, _, _, _, _⟩) (ty := 34) (x := .tmp 27) (g := r2) (off := 34) (ys := hd') ?_ ?_ ?_ M'.out.1 Tryd.underlying34 ?_ ?_ ?_); (· rfl); (· rfl); (· rfl); (· rfl); (· rw [L_h']; rfl); go_frame)
                | ((with_reducible refine wpList_load_mid (o := ⟨some 19, _, _, _, _, _⟩) (ty := 23) (x := .tmp 18) (g := r) (off := 2) (ys := cellsOf cm) ?_ ?_ ?_ M.out.2 Tryd.underlying23 ?_ ?_ ?_); (· rfl); (· rfl); (· rfl); (· rfl); (· rw [C_cm]; rfl); go_frame)
                | ((with_reducible refine wpList_load_mid (o := ⟨some 21, _, _, _, _, _⟩) (ty := 23) (x := .tmp 20) (g := r2) (off := 2) (ys := cellsOf cm') ?_ ?_ ?_ M'.out.2 Tryd.underlying23 ?_ ?_ ?_); (· rfl); (· rfl); (· rfl); (· rfl); (· rw [C_cm']; rfl); go_frame)
                | ((with_reducible refine wpList_eql_keyB (o := ⟨some 22, _, _, _, _, _⟩) ?_ (.tmp 19) (.tmp 21) 23 ?_ cm cm' true ?_ ?_ ?_ hc hc' ?_); (· rfl); (· rfl); (· exact h3.out ()); (· rfl); (· rfl); go_frame)
                | ((with_reducible refine wpList_eql_headB (o := ⟨some 29, _, _, _, _, _⟩) ?_ (.tmp 26) (.tmp 28) 34 ?_ (h4.out ()) (hhd.out ()) (hhd'.out ()) ?_ ?_ hk hk' ?_); (· rfl); (· rfl); (· rfl); (· rfl); go_frame))
            go_ret
            exact ⟨by rw [hb.out]; exact ret_bool hd5.out, x0.out⟩
end Go.Proofs.YtbnjmmefnjoofaaDoor
