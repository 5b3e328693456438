import Derived.Test.YtmnohmhhmaeljaaDoorKeyEq
import Derived.Test.YtmnohmhhmaeljaaDoorStC
import Derived.Test.YtmnohmhhmaeljaaDoorPkJ
import Derived.Test.YtmnohmhhmaeljaaDoorRRead16
import Derived.Test.YtmnohmhhmaeljaaDoorAwake17
section
/-
  Parts of structs are compared: keys and numbers.
-/
namespace Go.Proofs.YtmnohmhhmaeljaaDoor
open Go.ChangeShapes Go.WideShapes Go.ChangeAt Go.RowKit Go.Deep
set_option maxRecDepth 100000

theorem part_keyF {w : World} {K : Array Value} {off : Nat} : (part 24 K off).run Tryd.prog w = .ok (.agg (K.extract off (off + 32))) w := by
  obtain ⟨i, hi, hz0, hz1, hz2⟩ := info_parts (show (Tryd.prog.info? 24).map (fun i => (i.zero, i.size, i.bytes)) = some (some (.agg zeros32), 32, 32) by kernel_rfl)
  simp [part, isAgg, run_underlying Tryd.underlying24, sizeOf, typeInfo, hi, hz1]
theorem key_equalF {d : Nat} {xs ys : List UInt8} (hx : xs.length = 32) (hy : ys.length = 32) (w : World) :
    (Op.equalIn (d + 2) 24 (.agg (cellsOf xs).toArray) (.agg (cellsOf ys).toArray)).run Tryd.prog w = .ok (decide (xs = ys)) w := by
  rw [cellsOf_cell, cellsOf_cell, run_equalIn_bytes w d 24 5 32 rfl rfl (fun _ => rfl) xs ys hx hy]
  congr 1
  rw [Bool.eq_iff_iff]; simp
theorem part_intF {w : World} {K : Array Value} {off : Nat} {v : Value} (h : K[off]? = some v) : (part 3 K off).run Tryd.prog w = .ok v w := by
  simp [part, isAgg, run_underlying Tryd.underlying3, h]
theorem int_equalF {d : Nat} {a b : Int} (w : World) : (Op.equalIn (d + 1) 3 (.int .i64 a) (.int .i64 b)).run Tryd.prog w = .ok (a == b) w := by
  simp [Op.equalIn, run_underlying Tryd.underlying3]
end Go.Proofs.YtmnohmhhmaeljaaDoor
end

section
/-
  A stamp equals itself.
-/
namespace Go.Proofs.YtmnohmhhmaeljaaDoor
open Go.ChangeShapes Go.WideShapes Go.ChangeAt Go.RowKit Go.Deep
set_option maxRecDepth 100000

theorem stamp_fields : ∃ a b c d e f : Field, (Tryd.prog.fieldsOf 26).toList = [a, b, c, d, e, f] ∧ ((a.type = 3 ∧ a.offset = 0 ∧ a.name ≠ "_") ∧ (b.type = 3 ∧ b.offset = 1 ∧ b.name ≠ "_") ∧ (c.type = 3 ∧ c.offset = 2 ∧ c.name ≠ "_") ∧ (d.type = 3 ∧ d.offset = 3 ∧ d.name ≠ "_")) ∧ (e.type = 24 ∧ e.offset = 4 ∧ e.name ≠ "_") ∧ (f.type = 24 ∧ f.offset = 36 ∧ f.name ≠ "_") := by
  have h : ((Tryd.prog.fieldsOf 26).toList.map fun f => (f.name, f.type, f.offset)) = [("Epoch", 3, 0), ("From", 3, 1), ("To", 3, 2), ("Time", 3, 3), ("Commit", 24, 4), ("Tag", 24, 36)] := by kernel_rfl
  obtain ⟨a, l1, h0, ha, h⟩ := List.map_eq_cons_iff.1 h
  obtain ⟨b, l2, rfl, hb, h⟩ := List.map_eq_cons_iff.1 h
  obtain ⟨c, l3, rfl, hc, h⟩ := List.map_eq_cons_iff.1 h
  obtain ⟨d, l4, rfl, hd, h⟩ := List.map_eq_cons_iff.1 h
  obtain ⟨e, l5, rfl, he, h⟩ := List.map_eq_cons_iff.1 h
  obtain ⟨f, l6, rfl, hf, h⟩ := List.map_eq_cons_iff.1 h
  obtain rfl := List.map_eq_nil_iff.1 h
  simp only [Prod.mk.injEq] at ha hb hc hd he hf
  exact ⟨a, b, c, d, e, f, h0, ⟨⟨ha.2.1, ha.2.2, by rw [ha.1]; decide⟩, ⟨hb.2.1, hb.2.2, by rw [hb.1]; decide⟩, ⟨hc.2.1, hc.2.2, by rw [hc.1]; decide⟩, ⟨hd.2.1, hd.2.2, by rw [hd.1]; decide⟩⟩, ⟨he.2.1, he.2.2, by rw [he.1]; decide⟩, ⟨hf.2.1, hf.2.2, by rw [hf.1]; decide⟩⟩
theorem stamp_self {ep f t tm : Int} {cm tg : List UInt8} (hc : cm.length = 32) (hg : tg.length = 32) (w : World) :
    (Op.equalIn 10000 26 (.agg (stC ep f t tm cm tg).toArray) (.agg (stC ep f t tm cm tg).toArray)).run Tryd.prog w = .ok true w := by
  obtain ⟨a, b, c, d, e, k, hf, ⟨⟨a1, a2, a3⟩, ⟨b1, b2, b3⟩, ⟨c1, c2, c3⟩, ⟨d1, d2, d3⟩⟩, ⟨e1, e2, e3⟩, ⟨k1, k2, k3⟩⟩ := stamp_fields
  have x0 : (stC ep f t tm cm tg).toArray[0]? = some (.int .i64 ep) := rfl
  have x1 : (stC ep f t tm cm tg).toArray[1]? = some (.int .i64 f) := rfl
  have x2 : (stC ep f t tm cm tg).toArray[2]? = some (.int .i64 t) := rfl
  have x3 : (stC ep f t tm cm tg).toArray[3]? = some (.int .i64 tm) := rfl
  have x4 : (stC ep f t tm cm tg).toArray.extract 4 (4 + 32) = (cellsOf cm).toArray := by
    have q : (stC ep f t tm cm tg).drop 4 = cellsOf cm ++ cellsOf tg := rfl
    rw [List.extract_toArray, List.extract, q, Nat.add_sub_cancel_left, List.take_left' (by rw [cellsOf_len, hc])]
  have x5 : (stC ep f t tm cm tg).toArray.extract 36 (36 + 32) = (cellsOf tg).toArray := by
    rw [List.extract_toArray, List.extract, stC, ← List.append_assoc, List.drop_left' (by simp [cellsOf_len, hc]), Nat.add_sub_cancel_left, List.take_of_length_le (by rw [cellsOf_len, hg]; exact Nat.le_refl _)]
  generalize (stC ep f t tm cm tg).toArray = K at *
  rw [run_equalIn_struct w 9999 26 _ _ (by kernel_rfl) (by kernel_rfl), hf]
  have i0 := int_equalF (d := 9998) (a := ep) (b := ep) w
  have i1 := int_equalF (d := 9998) (a := f) (b := f) w
  have i2 := int_equalF (d := 9998) (a := t) (b := t) w
  have i3 := int_equalF (d := 9998) (a := tm) (b := tm) w
  simp only [Op.eqFields, a1, a2, if_pos a3, b1, b2, if_pos b3, c1, c2, if_pos c3, d1, d2, if_pos d3, e1, e2, if_pos e3, k1, k2, if_pos k3, Sem.run_bind, part_keyF, part_intF x0, part_intF x1, part_intF x2, part_intF x3, Result.andThen_ok, x4, x5, key_equalF (d := 9997) hc hc, key_equalF (d := 9997) hg hg, i0, i1, i2, i3, beq_self_eq_true, Bool.not_true, Bool.false_eq_true, if_false, decide_true]
  rfl
theorem stamp_guard : Tryd.prog.eqGuardType Tryd.prog.depth 26 = false := by kernel_rfl
theorem exec_eql_stamp {o : Oper} {a : Act} {w : World} {x y : Operand} {t' : TypeId} {L : List Value} (hL : ∃ ep f t tm cm tg, L = stC ep f t tm cm tg ∧ cm.length = 32 ∧ tg.length = 32) (ho : o.op = .binOp .eql 26 x y t') (hx : a.eval x = .agg L.toArray) (hy : a.eval y = .agg L.toArray) :
    (execOp a.eval o).run Tryd.prog w = .ok (.value (.bool true)) w := by
  obtain ⟨ep, f, t, tm, cm, tg, rfl, hp, hq⟩ := hL
  unfold execOp
  simp only [ho, hx, hy, Sem.run_bind, run_eqGuard_agg _ _ _ _ _ _ _ stamp_guard, Result.andThen_ok, run_eql_struct, stamp_self hp hq, Sem.run_pure]
theorem exec_neq_stamp {o : Oper} {a : Act} {w : World} {x y : Operand} {t' : TypeId} {L : List Value} (hL : ∃ ep f t tm cm tg, L = stC ep f t tm cm tg ∧ cm.length = 32 ∧ tg.length = 32) (ho : o.op = .binOp .neq 26 x y t') (hx : a.eval x = .agg L.toArray) (hy : a.eval y = .agg L.toArray) :
    (execOp a.eval o).run Tryd.prog w = .ok (.value (.bool false)) w := by
  obtain ⟨ep, f, t, tm, cm, tg, rfl, hp, hq⟩ := hL
  unfold execOp
  simp only [ho, hx, hy, Sem.run_bind, run_eqGuard_agg _ _ _ _ _ _ _ stamp_guard, Result.andThen_ok, run_neq_struct, run_eql_struct, stamp_self hp hq, Sem.run_pure, Bool.not_true]
end Go.Proofs.YtmnohmhhmaeljaaDoor
end

section
/-
  Stamps and reports are compared, whatever they are; the document's Same of reports.
-/
namespace Go.Proofs.YtmnohmhhmaeljaaDoor
open Go.ChangeShapes Go.WideShapes Go.ChangeAt Go.RowKit Go.Deep
set_option maxRecDepth 100000

/-- Are two stamps the same? -/
def sameSm (s t : Sm) : Bool := (s.ep == t.ep) && ((s.f == t.f) && ((s.t == t.t) && ((s.tm == t.tm) && (decide (s.cm = t.cm) && decide (s.tg = t.tg)))))
theorem sameSm_self (s : Sm) : sameSm s s = true := by simp [sameSm]
theorem sameSm_iff {s t : Sm} : sameSm s t = true ↔ s = t := by
  obtain ⟨a, b, c, d, e, f⟩ := s
  obtain ⟨a', b', c', d', e', f'⟩ := t
  simp [sameSm]
theorem st_arr {s : Sm} (ok : s.ok) : s.C.toArray[0]? = some (.int .i64 s.ep) ∧ s.C.toArray[1]? = some (.int .i64 s.f) ∧ s.C.toArray[2]? = some (.int .i64 s.t) ∧ s.C.toArray[3]? = some (.int .i64 s.tm) ∧ s.C.toArray.extract 4 (4 + 32) = (cellsOf s.cm).toArray ∧ s.C.toArray.extract 36 (36 + 32) = (cellsOf s.tg).toArray := by
  obtain ⟨hc, hg⟩ := ok
  refine ⟨rfl, rfl, rfl, rfl, ?_, ?_⟩
  · have q : s.C.drop 4 = cellsOf s.cm ++ cellsOf s.tg := rfl
    rw [List.extract_toArray, List.extract, q, Nat.add_sub_cancel_left, List.take_left' (by rw [cellsOf_len, hc])]
  · rw [List.extract_toArray, List.extract, Sm.C, stC, ← List.append_assoc, List.drop_left' (by simp [cellsOf_len, hc]), Nat.add_sub_cancel_left, List.take_of_length_le (by rw [cellsOf_len, hg]; exact Nat.le_refl _)]
theorem stamp_equal {s t : Sm} (hs : s.ok) (ht : t.ok) (w : World) :
    (Op.equalIn 10000 26 (.agg s.C.toArray) (.agg t.C.toArray)).run Tryd.prog w = .ok (sameSm s t) w := by
  obtain ⟨a, b, c, d, e, k, hf, ⟨⟨a1, a2, a3⟩, ⟨b1, b2, b3⟩, ⟨c1, c2, c3⟩, ⟨d1, d2, d3⟩⟩, ⟨e1, e2, e3⟩, ⟨k1, k2, k3⟩⟩ := stamp_fields
  obtain ⟨x0, x1, x2, x3, x4, x5⟩ := st_arr hs
  obtain ⟨y0, y1, y2, y3, y4, y5⟩ := st_arr ht
  obtain ⟨hc, hg⟩ := hs
  obtain ⟨hc', hg'⟩ := ht
  generalize s.C.toArray = K at *
  generalize t.C.toArray = M at *
  rw [run_equalIn_struct w 9999 26 _ _ (by kernel_rfl) (by kernel_rfl), hf]
  have i0 := int_equalF (d := 9998) (a := s.ep) (b := t.ep)
  have i1 := int_equalF (d := 9998) (a := s.f) (b := t.f)
  have i2 := int_equalF (d := 9998) (a := s.t) (b := t.t)
  have i3 := int_equalF (d := 9998) (a := s.tm) (b := t.tm)
  have i4 := key_equalF (d := 9997) hc hc'
  have i5 := key_equalF (d := 9997) hg hg'
  unfold sameSm
  generalize (s.ep == t.ep) = q0 at *
  generalize (s.f == t.f) = q1 at *
  generalize (s.t == t.t) = q2 at *
  generalize (s.tm == t.tm) = q3 at *
  generalize decide (s.cm = t.cm) = q4 at *
  generalize decide (s.tg = t.tg) = q5 at *
  cases q0
  · simp [Op.eqFields, a1, a2, a3, b1, b2, b3, c1, c2, c3, d1, d2, d3, e1, e2, e3, k1, k2, k3, part_keyF, part_intF x0, part_intF x1, part_intF x2, part_intF x3, part_intF y0, part_intF y1, part_intF y2, part_intF y3, x4, x5, y4, y5, i0, i1, i2, i3, i4, i5]
  cases q1
  · simp [Op.eqFields, a1, a2, a3, b1, b2, b3, c1, c2, c3, d1, d2, d3, e1, e2, e3, k1, k2, k3, part_keyF, part_intF x0, part_intF x1, part_intF x2, part_intF x3, part_intF y0, part_intF y1, part_intF y2, part_intF y3, x4, x5, y4, y5, i0, i1, i2, i3, i4, i5]
  cases q2
  · simp [Op.eqFields, a1, a2, a3, b1, b2, b3, c1, c2, c3, d1, d2, d3, e1, e2, e3, k1, k2, k3, part_keyF, part_intF x0, part_intF x1, part_intF x2, part_intF x3, part_intF y0, part_intF y1, part_intF y2, part_intF y3, x4, x5, y4, y5, i0, i1, i2, i3, i4, i5]
  cases q3
  · simp [Op.eqFields, a1, a2, a3, b1, b2, b3, c1, c2, c3, d1, d2, d3, e1, e2, e3, k1, k2, k3, part_keyF, part_intF x0, part_intF x1, part_intF x2, part_intF x3, part_intF y0, part_intF y1, part_intF y2, part_intF y3, x4, x5, y4, y5, i0, i1, i2, i3, i4, i5]
  cases q4
  · simp [Op.eqFields, a1, a2, a3, b1, b2, b3, c1, c2, c3, d1, d2, d3, e1, e2, e3, k1, k2, k3, part_keyF, part_intF x0, part_intF x1, part_intF x2, part_intF x3, part_intF y0, part_intF y1, part_intF y2, part_intF y3, x4, x5, y4, y5, i0, i1, i2, i3, i4, i5]
  cases q5
  · simp [Op.eqFields, a1, a2, a3, b1, b2, b3, c1, c2, c3, d1, d2, d3, e1, e2, e3, k1, k2, k3, part_keyF, part_intF x0, part_intF x1, part_intF x2, part_intF x3, part_intF y0, part_intF y1, part_intF y2, part_intF y3, x4, x5, y4, y5, i0, i1, i2, i3, i4, i5]
  simp [Op.eqFields, a1, a2, a3, b1, b2, b3, c1, c2, c3, d1, d2, d3, e1, e2, e3, k1, k2, k3, part_keyF, part_intF x0, part_intF x1, part_intF x2, part_intF x3, part_intF y0, part_intF y1, part_intF y2, part_intF y3, x4, x5, y4, y5, i0, i1, i2, i3, i4, i5]
theorem exec_eql_stampB {o : Oper} {a : Act} {w : World} {x y : Operand} {t' : TypeId} {s t : Sm} {b : Bool} (hb : sameSm s t = b) (hs : s.ok) (ht : t.ok) (ho : o.op = .binOp .eql 26 x y t') (hx : a.eval x = .agg s.C.toArray) (hy : a.eval y = .agg t.C.toArray) :
    (execOp a.eval o).run Tryd.prog w = .ok (.value (.bool b)) w := by
  subst hb
  unfold execOp
  simp only [ho, hx, hy, Sem.run_bind, run_eqGuard_agg _ _ _ _ _ _ _ stamp_guard, Result.andThen_ok, run_eql_struct, stamp_equal hs ht, Sem.run_pure]
/-- Are two reports the same? -/
def sameRm (a b : Rm) : Bool := decide (a.id = b.id) && (decide (a.whose = b.whose) && (decide (a.txt = b.txt) && (decide (a.op = b.op) && sameSm a.st b.st)))
theorem sameRm_iff {a b : Rm} : sameRm a b = true ↔ a = b := by
  obtain ⟨a1, a2, a3, a4, a5⟩ := a
  obtain ⟨b1, b2, b3, b4, b5⟩ := b
  simp [sameRm, sameSm_iff]
set_option maxHeartbeats 8000000 in
theorem rsame17_calls {w : World} {a b : Rm} {A B : Option Addr} {c d : Nat} (oka : a.ok) (okb : b.ok) (ha : Bs w A a.txt.length c a.txt) (hb : Bs w B b.txt.length d b.txt) :
    Calls Tryd.prog 19 #[.agg (rpC a.id a.whose A a.txt.length c a.op a.st.C).toArray, .agg (rpC b.id b.whose B b.txt.length d b.op b.st.C).toArray] w fun e w' => e = .returned (.bool (sameRm a b)) ∧ Ext w w' := by
  obtain ⟨ida, wha, xs, opa, sa⟩ := a
  obtain ⟨idb, whb, ys, opb, sb⟩ := b
  obtain ⟨la, oksa⟩ := oka
  obtain ⟨lb, oksb⟩ := okb
  dsimp only at *
  have CV : Hid (∀ (W : World) A n c (ys : List UInt8), Bs W A n c ys → (convert 22 9 (.slice A n c)).run Tryd.prog W = .ok (.string (strL ys)) W) := fun W A n c ys h => conv_bs h
  have hR : Hid (∀ _ : Unit, sameRm ⟨ida, wha, xs, opa, sa⟩ ⟨idb, whb, ys, opb, sb⟩ = (decide (ida = idb) && (decide (wha = whb) && (decide (xs = ys) && (decide (opa = opb) && sameSm sa sb))))) := fun _ => rfl
  generalize sameRm ⟨ida, wha, xs, opa, sa⟩ ⟨idb, whb, ys, opb, sb⟩ = R at *
  have EQ : Hid (∀ (o : Oper) (a : Act) (w : World) (x y : Operand) (t' : TypeId) (bb : Bool), sameSm sa sb = bb → o.op = .binOp .eql 26 x y t' → a.eval x = .agg sa.C.toArray → a.eval y = .agg sb.C.toArray → (execOp a.eval o).run Tryd.prog w = .ok (.value (.bool bb)) w) := fun o a w x y t' bb h h1 h2 h3 => exec_eql_stampB h oksa oksb h1 h2 h3
  have L_sa := Sm.C_len oksa
  have L_sb := Sm.C_len oksb
  generalize xs.length = n at *
  generalize ys.length = m at *
  have MA := Lib.hid (fun _ : Unit => rpC_mid ida wha A n c opa sa.C)
  have MB := Lib.hid (fun _ : Unit => rpC_mid idb whb B m d opb sb.C)
  have OA : Hid (∀ _ : Unit, rpC ida wha A n c opa sa.C = [.int .i64 ida, .int .i64 wha, .slice A n c] ++ (cellsOf opa ++ sa.C)) := fun _ => rfl
  have OB : Hid (∀ _ : Unit, rpC idb whb B m d opb sb.C = [.int .i64 idb, .int .i64 whb, .slice B m d] ++ (cellsOf opb ++ sb.C)) := fun _ => rfl
  have pa := rp_pre (id := ida) (whose := wha) (A := A) (n := n) (c := c) la
  have pb := rp_pre (id := idb) (whose := whb) (A := B) (n := m) (c := d) lb
  have ca0 : Hid ((rpC ida wha A n c opa sa.C)[0]? = some (.int .i64 ida)) := rfl
  have ca1 : Hid ((rpC ida wha A n c opa sa.C)[1]? = some (.int .i64 wha)) := rfl
  have ca2 : Hid ((rpC ida wha A n c opa sa.C)[2]? = some (.slice A n c)) := rfl
  have cb0 : Hid ((rpC idb whb B m d opb sb.C)[0]? = some (.int .i64 idb)) := rfl
  have cb1 : Hid ((rpC idb whb B m d opb sb.C)[1]? = some (.int .i64 whb)) := rfl
  have cb2 : Hid ((rpC idb whb B m d opb sb.C)[2]? = some (.slice B m d)) := rfl
  generalize rpC ida wha A n c opa sa.C = LA at *
  generalize rpC idb whb B m d opb sb.C = LB at *
  generalize sa.C = SA at *
  generalize sb.C = SB at *
  have C_a : (cellsOf opa).length = 32 := by rw [cellsOf_len, la]
  have C_b : (cellsOf opb).length = 32 := by rw [cellsOf_len, lb]
  obtain ⟨r, hr⟩ : ∃ x, x = w.heap.size := ⟨_, rfl⟩
  have B0 : Hid (Cb ((w.alloc (Obj.cells LA.toArray 28)).alloc (Obj.cells LB.toArray 28)) r 28 LA ∧ Cb ((w.alloc (Obj.cells LA.toArray 28)).alloc (Obj.cells LB.toArray 28)) (r + 1) 28 LB ∧ Ext w ((w.alloc (Obj.cells LA.toArray 28)).alloc (Obj.cells LB.toArray 28))) := by rw [hr]; exact ⟨heap_alloc1 _ _ _, heap_alloc2 _ _ _, ((Ext.refl w).alloc _).alloc _⟩
  go_enter Tryd.func19, Tryd.ntmps19
  go_upto_region 1 with fail
  refine wp_gen (fun W => Cb W r 28 LA ∧ Cb W (r + 1) 28 LB ∧ Ext w W) B0.out ?_
  rw [← hr]
  clear B0
  replace hr := Lib.hid hr
  rintro w0 ⟨ka, kb, x0⟩
  have a0 := ka.cell ca0.out
  have a1 := ka.cell ca1.out
  have a2 := ka.cell ca2.out
  have b0 := kb.cell cb0.out
  have b1 := kb.cell cb1.out
  have b2 := kb.cell cb2.out
  have ma3 := Lib.hid (ka.mid (OA.out ()) rfl)
  have mb3 := Lib.hid (kb.mid (OB.out ()) rfl)
  have ma35 := Lib.hid (ka.mid (MA.out ()) pa)
  have mb35 := Lib.hid (kb.mid (MB.out ()) pb)
  have v1 := CV.out _ _ _ _ _ (ha.ext x0)
  have v2 := CV.out _ _ _ _ _ (hb.ext x0)
  replace x0 := Lib.hid x0
  clear ka kb ca0 ca1 ca2 cb0 cb1 cb2 MA MB OA OB pa pb ha hb CV oksa oksb
  by_cases h0 : ¬ (ida = idb)
  · have g : Hid (R = false) := Lib.hid (by rw [hR.out (), decide_eq_false h0]; rfl)
    have u0 : (ida == idb) = false := beq_false_of_ne h0
    clear hR h0
    go_wp2_with fail
    go_ret
    exact ⟨by rw [g.out]; rfl, x0.out⟩
  obtain rfl : ida = idb := Classical.not_not.1 h0
  have u0 : (ida == ida) = true := beq_self_eq_true _
  clear h0
  by_cases h1 : ¬ (wha = whb)
  · have g : Hid (R = false) := Lib.hid (by rw [hR.out (), decide_eq_false h1, Bool.false_and, Bool.and_false])
    have u1 : (wha == whb) = false := beq_false_of_ne h1
    clear hR h1
    go_wp2_with fail
    go_ret
    exact ⟨by rw [g.out]; rfl, x0.out⟩
  obtain rfl : wha = whb := Classical.not_not.1 h1
  have u1 : (wha == wha) = true := beq_self_eq_true _
  clear h1
  by_cases h2 : ¬ (xs = ys)
  · have g : Hid (R = false) := Lib.hid (by rw [hR.out (), decide_eq_false h2, Bool.false_and, Bool.and_false, Bool.and_false])
    have u2 : ((strL xs).toList == (strL ys).toList) = false := beq_false_of_ne (fun q => h2 (by rwa [strL_toList16, strL_toList16] at q))
    clear hR h2
    go_wp2_with fail
    go_ret
    exact ⟨by rw [g.out]; rfl, x0.out⟩
  obtain rfl : xs = ys := Classical.not_not.1 h2
  have u2 : ((strL xs).toList == (strL xs).toList) = true := beq_self_eq_true _
  clear h2
  by_cases h3 : ¬ (opa = opb)
  · have g : Hid (R = false) := Lib.hid (by rw [hR.out (), decide_eq_false h3, Bool.false_and, Bool.and_false, Bool.and_false, Bool.and_false])
    clear hR
    go_wp2_with (first
      | ((with_reducible refine wpList_load_mid (o := ⟨some 28, _, _, _, _, _⟩) (ty := 24) (g := r) (off := 3) (ys := (cellsOf opa)) ?_ rfl ?_ ?_ Tryd.underlying24 ?_ ?_ ?_); (· rfl); (· rfl); (· exact ma3.out); (· rfl); (· rw [C_a]; rfl); go_frame)
      | ((with_reducible refine wpList_load_mid (o := ⟨some 30, _, _, _, _, _⟩) (ty := 24) (g := (r + 1)) (off := 3) (ys := (cellsOf opb)) ?_ rfl ?_ ?_ Tryd.underlying24 ?_ ?_ ?_); (· rfl); (· rfl); (· exact mb3.out); (· rfl); (· rw [C_b]; rfl); go_frame)
      | ((with_reducible refine wpList_eql_keyB (o := ⟨some 31, _, _, _, _, _⟩) ?_ _ _ _ rfl opa opb false ?_ ?_ ?_ la lb ?_); (· rfl); (· exact (decide_eq_false h3)); (· rfl); (· rfl); go_frame))
    go_ret
    exact ⟨by rw [g.out]; rfl, x0.out⟩
  obtain rfl : opa = opb := Classical.not_not.1 h3
  obtain ⟨bb, hbb⟩ : ∃ bb, sameSm sa sb = bb := ⟨_, rfl⟩
  have g : Hid (R = bb) := Lib.hid (by rw [hR.out (), hbb, decide_eq_true rfl, decide_eq_true rfl, decide_eq_true rfl, decide_eq_true rfl]; rfl)
  clear hR h3
  replace hbb := Lib.hid hbb
  go_wp2_with (first
    | ((with_reducible refine wpList_load_mid (o := ⟨some 28, _, _, _, _, _⟩) (ty := 24) (g := r) (off := 3) (ys := (cellsOf opa)) ?_ rfl ?_ ?_ Tryd.underlying24 ?_ ?_ ?_); (· rfl); (· rfl); (· exact ma3.out); (· rfl); (· rw [C_a]; rfl); go_frame)
    | ((with_reducible refine wpList_load_mid (o := ⟨some 30, _, _, _, _, _⟩) (ty := 24) (g := (r + 1)) (off := 3) (ys := (cellsOf opa)) ?_ rfl ?_ ?_ Tryd.underlying24 ?_ ?_ ?_); (· rfl); (· rfl); (· exact mb3.out); (· rfl); (· rw [C_b]; rfl); go_frame)
    | ((with_reducible refine wpList_eql_keyB (o := ⟨some 31, _, _, _, _, _⟩) ?_ _ _ _ rfl opa opa true ?_ ?_ ?_ la lb ?_); (· rfl); (· exact (decide_eq_true rfl)); (· rfl); (· rfl); go_frame)
    | ((with_reducible refine wpList_load_mid (o := ⟨some 35, _, _, _, _, _⟩) (ty := 26) (g := r) (off := 35) (ys := SA) ?_ rfl ?_ ?_ Tryd.underlying26 ?_ ?_ ?_); (· rfl); (· rfl); (· exact ma35.out); (· rfl); (· rw [L_sa]; rfl); go_frame)
    | ((with_reducible refine wpList_load_mid (o := ⟨some 37, _, _, _, _, _⟩) (ty := 26) (g := (r + 1)) (off := 35) (ys := SB) ?_ rfl ?_ ?_ Tryd.underlying26 ?_ ?_ ?_); (· rfl); (· rfl); (· exact mb35.out); (· rfl); (· rw [L_sb]; rfl); go_frame)
    | (refine wpList_exec rfl (EQ.out _ _ _ _ _ _ bb hbb.out rfl rfl rfl) ?_; go_frame))
  go_ret
  exact ⟨by rw [g.out]; rfl, x0.out⟩
end Go.Proofs.YtmnohmhhmaeljaaDoor
end

section
/-
  palfreylaw17.ReportBack.
-/
namespace Go.Proofs.YtmnohmhhmaeljaaDoor
open Go.ChangeShapes Go.WideShapes Go.ChangeAt Go.RowKit Go.Deep Go.Maps
set_option maxRecDepth 100000

theorem readR_txt (b : List UInt8) : (readRp b).txt.length ≤ 250 := by
  unfold readRp
  split
  · exact Nat.zero_le _
  · split
    · rename_i h
      exact (besideB_iff.1 (formR_iff.1 h).2.2.2.2.2).2.2
    · exact Nat.zero_le _
theorem back_facts {r : Rm} (ok : r.ok) : (bytesRp r).length ≤ 1000000 ∧ (bytesRpE r = 1 ∨ (bytesRpE r = 0 ∧ readRpE (bytesRp r) = 0 ∧ sameRm r (readRp (bytesRp r)) = true)) := by
  rcases h : r.right with _ | _
  · obtain ⟨h1, h2⟩ := bytesRp_facts.1 h
    exact ⟨by rw [h1]; exact Nat.zero_le _, .inl h2⟩
  · obtain ⟨h1, h2⟩ := bytesRp_facts.2 h
    obtain ⟨h3, h4⟩ := read_bytesR ok h
    exact ⟨by rw [h1]; have := rows_le ok h; omega, .inr ⟨h2, h3, by rw [h4]; exact sameRm_iff.2 rfl⟩⟩
set_option maxHeartbeats 16000000 in
theorem back17_calls {w : World} {r : Rm} (ok : r.ok) {A : Option Addr} {c : Nat} (hr : Bs w A r.txt.length c r.txt) {B : Option Addr} {m d : Nat} {b : List UInt8} (hb : Bs w B m d b) {tg : TypeId × Nat × Nat} (hG : Gl w tg) :
    Calls Tryd.prog 5 #[.agg (rpC r.id r.whose A r.txt.length c r.op r.st.C).toArray, .slice B m d] w fun e w' => e = .returned (.bool true) ∧ Ext w w' := by
  have AW : Hid (∀ W : World, Ext w W → Calls Tryd.prog 14 #[] W fun e w' => e = .returned (.bool true) ∧ Ext W w') := fun W x => awake17_calls (hG.kept x hG.lt)
  have BY : Hid (∀ W : World, Ext w W → r.txt.length ≤ 1000000 → Calls Tryd.prog 15 #[.agg (rpC r.id r.whose A r.txt.length c r.op r.st.C).toArray] W (RetBsE (bytesRp r) (bytesRpE r) W)) := fun W x h => bytes17_calls ok (hr.ext x) h
  obtain ⟨lb, BF⟩ := back_facts ok
  have oky := readR_ok (bytesRp r)
  have okz := readR_ok b
  have lz := readR_txt b
  have ZF : Hid (readRpE b = 0 → bytesRpE (readRp b) = 0 ∧ bytesRp (readRp b) = b) := fun h => by
    obtain ⟨h1, h2⟩ := bytes_readR h
    exact ⟨(bytesRp_facts.2 h1).2, h2⟩
  have R1 : Hid (∀ (W : World) A n c, Bs W A n c (bytesRp r) → Calls Tryd.prog 17 #[.slice A n c] W fun e W' => ∃ A n c, e = .returned (.tuple #[.agg (rpC (readRp (bytesRp r)).id (readRp (bytesRp r)).whose A n c (readRp (bytesRp r)).op (readRp (bytesRp r)).st.C).toArray, .int .i64 (readRpE (bytesRp r))]) ∧ Bs W' A n c (readRp (bytesRp r)).txt ∧ Ext W W') := fun W A n c h => read17_calls h (by rw [← h.len]; exact lb)
  have R2 : Hid (∀ (W : World), Ext w W → m ≤ 1000000 → Calls Tryd.prog 17 #[.slice B m d] W fun e W' => ∃ A n c, e = .returned (.tuple #[.agg (rpC (readRp b).id (readRp b).whose A n c (readRp b).op (readRp b).st.C).toArray, .int .i64 (readRpE b)]) ∧ Bs W' A n c (readRp b).txt ∧ Ext W W') := fun W x h => read17_calls (hb.ext x) h
  have SM : Hid (∀ (W : World) (B : Option Addr) (m d : Nat), Ext w W → Bs W B m d (readRp (bytesRp r)).txt → Calls Tryd.prog 19 #[.agg (rpC r.id r.whose A r.txt.length c r.op r.st.C).toArray, .agg (rpC (readRp (bytesRp r)).id (readRp (bytesRp r)).whose B m d (readRp (bytesRp r)).op (readRp (bytesRp r)).st.C).toArray] W fun e w' => e = .returned (.bool (sameRm r (readRp (bytesRp r)))) ∧ Ext W w') := fun W B m d x h2 => by
    obtain rfl := h2.len
    exact rsame17_calls (w := W) ok oky (hr.ext x) h2
  have BZ : Hid (∀ (W : World) A n c, Bs W A n c (readRp b).txt → Calls Tryd.prog 15 #[.agg (rpC (readRp b).id (readRp b).whose A n c (readRp b).op (readRp b).st.C).toArray] W (RetBsE (bytesRp (readRp b)) (bytesRpE (readRp b)) W)) := fun W A n c h => by
    obtain rfl := h.len
    exact bytes17_calls okz h (by omega)
  have CV : Hid (∀ (W : World) A n c (ys : List UInt8), Bs W A n c ys → (convert 22 9 (.slice A n c)).run Tryd.prog W = .ok (.string (strL ys)) W) := fun W A n c ys h => conv_bs h
  have LY : Hid (∀ A n c, (rpC (readRp (bytesRp r)).id (readRp (bytesRp r)).whose A n c (readRp (bytesRp r)).op (readRp (bytesRp r)).st.C).length = 103) := fun A n c => rpC_len oky.1 (Sm.C_len oky.2) _ _ _ _ _
  have OY : Hid (∀ A n c, (rpC (readRp (bytesRp r)).id (readRp (bytesRp r)).whose A n c (readRp (bytesRp r)).op (readRp (bytesRp r)).st.C).toArray.all (·.oneCell') = true) := fun A n c => one_cells one_rp
  have LZ : Hid (∀ A n c, (rpC (readRp b).id (readRp b).whose A n c (readRp b).op (readRp b).st.C).length = 103) := fun A n c => rpC_len okz.1 (Sm.C_len okz.2) _ _ _ _ _
  have OZ : Hid (∀ A n c, (rpC (readRp b).id (readRp b).whose A n c (readRp b).op (readRp b).st.C).toArray.all (·.oneCell') = true) := fun A n c => one_cells one_rp
  obtain ⟨fY, hfY⟩ : ∃ f : Option Addr → Nat → Nat → List Value, f = fun A n c => rpC (readRp (bytesRp r)).id (readRp (bytesRp r)).whose A n c (readRp (bytesRp r)).op (readRp (bytesRp r)).st.C := ⟨_, rfl⟩
  have e0 : ∀ A n c, rpC (readRp (bytesRp r)).id (readRp (bytesRp r)).whose A n c (readRp (bytesRp r)).op (readRp (bytesRp r)).st.C = fY A n c := fun A n c => by rw [hfY]
  simp only [e0] at R1 SM LY OY
  clear e0 hfY oky
  obtain ⟨fZ, hfZ⟩ : ∃ f : Option Addr → Nat → Nat → List Value, f = fun A n c => rpC (readRp b).id (readRp b).whose A n c (readRp b).op (readRp b).st.C := ⟨_, rfl⟩
  have e0 : ∀ A n c, rpC (readRp b).id (readRp b).whose A n c (readRp b).op (readRp b).st.C = fZ A n c := fun A n c => by rw [hfZ]
  simp only [e0] at R2 BZ LZ OZ
  clear e0 hfZ okz lz lb
  generalize sameRm r (readRp (bytesRp r)) = sm at *
  generalize readRpE (bytesRp r) = ey at *
  generalize (readRp (bytesRp r)).txt = ty at *
  generalize bytesRpE r = er at *
  generalize bytesRp r = bs at *
  generalize bytesRpE (readRp b) = ez at *
  generalize bytesRp (readRp b) = bz at *
  generalize (readRp b).txt = tz at *
  generalize readRpE b = eb at *
  replace BF := Lib.hid BF
  have L_r := rpC_len ok.1 (Sm.C_len ok.2) r.id r.whose A r.txt.length c
  have c2 : Hid ((rpC r.id r.whose A r.txt.length c r.op r.st.C)[2]? = some (.slice A r.txt.length c)) := rfl
  generalize rpC r.id r.whose A r.txt.length c r.op r.st.C = L at *
  generalize r.txt.length = n at *
  have S_r : L.toArray.size = 103 := by rw [List.size_toArray, L_r]
  clear ok L_r
  have hal := report_alloc
  have L_z := zRC_len
  generalize zRC = ZC at *
  have S_z : ZC.toArray.size = 103 := by rw [List.size_toArray, L_z]
  clear L_z
  obtain ⟨ri, hri⟩ : ∃ r, r = w.heap.size := ⟨_, rfl⟩
  have B0 : Hid (Cb (w.alloc (.cells L.toArray 28)) ri 28 L ∧ Ext w (w.alloc (.cells L.toArray 28))) := by rw [hri]; exact ⟨Cb.new _ _ _, (Ext.refl w).alloc _⟩
  have h1 := hb.le
  have h2 := hb.cap
  replace hb := Lib.hid hb
  clear hG hr
  go_enter Tryd.func5, Tryd.ntmps5
  go_upto_region 1 with fail
  refine wp_gen (fun W => Cb W ri 28 L ∧ Ext w W) B0.out ?_
  rw [← hri]
  clear B0
  replace hri := Lib.hid hri
  rintro w0 ⟨k0, x0⟩
  have P0 : Hid (∀ u, Ext w0 u → Cb u ri 28 L ∧ Ext w u) := fun u x => ⟨k0.ext x, x0.trans x⟩
  have A0 := Lib.hid (AW.out w0 x0)
  clear AW k0 x0
  go_wp2_with fail
  refine A0.out.mono ?_
  rintro e w1 ⟨rfl, x1⟩
  obtain ⟨k1, y1⟩ := P0.out w1 x1
  have f2 := k1.cell c2.out
  replace k1 := Lib.hid k1
  replace y1 := Lib.hid y1
  have P1 : Hid (∀ u, Ext w1 u → Cb u ri 28 L ∧ Ext w u) := fun u x => P0.out u (x1.trans x)
  clear A0 P0 x1 c2
  by_cases h5 : 1000 < n
  · have d1 : decide ((1000 : Int) < (n : Int)) = true := decide_eq_true (by omega)
    clear BY R1 R2 SM BZ CV P1
    go_wp2_with fail
    go_ret
    exact ⟨rfl, y1.out⟩
  have d1 : decide ((1000 : Int) < (n : Int)) = false := decide_eq_false (by omega)
  by_cases h6 : 1000 < m
  · have d2 : decide ((1000 : Int) < (m : Int)) = true := decide_eq_true (by omega)
    clear BY R1 R2 SM BZ CV P1
    go_wp2_with fail
    go_ret
    exact ⟨rfl, y1.out⟩
  have d2 : decide ((1000 : Int) < (m : Int)) = false := decide_eq_false (by omega)
  have BY1 := Lib.hid (BY.out w1 y1.out (by omega))
  replace R2 := Lib.hid (fun W x => R2.out W x (by omega))
  clear BY y1
  go_wp2_with (first | ((with_reducible refine wpList_load_rowW (o := ⟨some 27, _, _, _, _, _⟩) ?_ 28 _ rfl ri ?_ 28 L.toArray (0, 0) _ ?_ Tryd.underlying28 ?_ ?_ ?_); (· rfl); (· rfl); (· exact k1.out); (· rfl); (· rw [S_r]; rfl); go_frame))
  refine BY1.out.mono ?_
  rintro e w2 ⟨A2, n2, c2, rfl, b2, x2⟩
  have P2 : Hid (∀ u, Ext w2 u → Cb u ri 28 L ∧ Ext w u) := fun u x => P1.out u (x2.trans x)
  have R12 := Lib.hid (R1.out w2 _ _ _ b2)
  clear BY1 P1 k1 x2 d1 d2 f2 b2 R1
  go_wp2_with fail
  refine R12.out.mono ?_
  rintro e w3 ⟨A3, n3, c3, rfl, b3, x3⟩
  have S_3 : (fY A3 n3 c3).toArray.size = 103 := by rw [List.size_toArray, LY.out]
  have O_3 := OY.out A3 n3 c3
  have B3 : Hid (Cb ((w3.alloc (.cells ZC.toArray 28)).setRow w3.heap.size (fY A3 n3 c3).toArray) w3.heap.size 28 (fY A3 n3 c3) ∧ Ext w3 ((w3.alloc (.cells ZC.toArray 28)).setRow w3.heap.size (fY A3 n3 c3).toArray)) := ⟨Cb.set (Cb.new _ _ _), Ext.newRow _ _ _⟩
  have SM3 := Lib.hid (fun W => SM.out W A3 n3 c3)
  replace b3 := Lib.hid b3
  replace x3 := Lib.hid x3
  clear R12 LY OY SM
  go_upto_region 6 with (refine wpList_store_row rfl 28 _ _ rfl w3.heap.size (fY A3 n3 c3).toArray rfl rfl 28 ZC.toArray (heap_alloc_new _ _) (by rw [S_3]; rfl) (by rw [S_3, S_z]) O_3 ?_; simp only [Act.put])
  refine wp_gen (fun W => Cb W w3.heap.size 28 (fY A3 n3 c3) ∧ Ext w3 W) B3.out ?_
  generalize w3.heap.size = g3 at *
  generalize fY A3 n3 c3 = Y3 at *
  clear B3 O_3
  rintro w4 ⟨k3, x4⟩
  obtain ⟨k1, y4⟩ := P2.out w4 (x3.out.trans x4)
  have SM4 := Lib.hid (SM3.out w4 y4 (b3.out.ext x4))
  replace k1 := Lib.hid k1
  replace k3 := Lib.hid k3
  replace y4 := Lib.hid y4
  clear P2 x3 x4 b3 SM3
  go_wp2_with (first
    | ((with_reducible refine wpList_load_rowW (o := ⟨some 36, _, _, _, _, _⟩) ?_ 28 _ rfl ri ?_ 28 L.toArray (0, 0) _ ?_ Tryd.underlying28 ?_ ?_ ?_); (· rfl); (· rfl); (· exact k1.out); (· rfl); (· rw [S_r]; rfl); go_frame)
    | ((with_reducible refine wpList_load_rowW (o := ⟨some 37, _, _, _, _, _⟩) ?_ 28 _ rfl g3 ?_ 28 Y3.toArray (0, 0) _ ?_ Tryd.underlying28 ?_ ?_ ?_); (· rfl); (· rfl); (· exact k3.out); (· rfl); (· rw [S_3]; rfl); go_frame))
  refine SM4.out.mono ?_
  rintro e w5 ⟨rfl, x5⟩
  have y5 := Lib.hid (y4.out.trans x5)
  have bb5 := Lib.hid (hb.out.ext y5.out)
  have R25 := Lib.hid (R2.out w5 y5.out)
  clear SM4 k1 k3 y4 x5 R2 hb S_3 S_r
  go_upto_region 7 with fail
  go_cut [48] from 39 to 48 (fun cc wx => cc = .bool false ∧ wx = w5)
  case first =>
    rcases BF.out with rfl | ⟨rfl, rfl, rfl⟩
    · clear R25 BZ CV
      go_wp2_with fail
      go_meet
      exact ⟨rfl, rfl⟩
    · clear R25 BZ CV
      go_wp2_with fail
      go_meet
      exact ⟨rfl, rfl⟩
  case rest =>
    obtain ⟨rfl, rfl⟩ := hcut
    clear BF
    go_wp2_with fail
    refine R25.out.mono ?_
    rintro e w6 ⟨A6, n6, c6, rfl, b6, x6⟩
    have S_6 : (fZ A6 n6 c6).toArray.size = 103 := by rw [List.size_toArray, LZ.out]
    have O_6 := OZ.out A6 n6 c6
    have B6 : Hid (Cb ((w6.alloc (.cells ZC.toArray 28)).setRow w6.heap.size (fZ A6 n6 c6).toArray) w6.heap.size 28 (fZ A6 n6 c6) ∧ Ext w6 ((w6.alloc (.cells ZC.toArray 28)).setRow w6.heap.size (fZ A6 n6 c6).toArray)) := ⟨Cb.set (Cb.new _ _ _), Ext.newRow _ _ _⟩
    have BZ6 := Lib.hid (fun W => BZ.out W A6 n6 c6)
    replace b6 := Lib.hid b6
    replace x6 := Lib.hid x6
    clear R25 LZ OZ BZ
    go_upto_region 10 with (refine wpList_store_row rfl 28 _ _ rfl w6.heap.size (fZ A6 n6 c6).toArray rfl rfl 28 ZC.toArray (heap_alloc_new _ _) (by rw [S_6]; rfl) (by rw [S_6, S_z]) O_6 ?_; simp only [Act.put])
    refine wp_gen (fun W => Cb W w6.heap.size 28 (fZ A6 n6 c6) ∧ Ext w6 W) B6.out ?_
    generalize w6.heap.size = g6 at *
    generalize fZ A6 n6 c6 = Z6 at *
    clear B6 O_6 hal
    rintro w7 ⟨k6, x7⟩
    have BZ7 := Lib.hid (BZ6.out w7 (b6.out.ext x7))
    have x67 := Lib.hid (x6.out.trans x7)
    replace k6 := Lib.hid k6
    clear BZ6 b6 x6 x7
    go_wp2_with (first | ((with_reducible refine wpList_load_rowW (o := ⟨some 55, _, _, _, _, _⟩) ?_ 28 _ rfl g6 ?_ 28 Z6.toArray (0, 0) _ ?_ Tryd.underlying28 ?_ ?_ ?_); (· rfl); (· rfl); (· exact k6.out); (· rfl); (· rw [S_6]; rfl); go_frame))
    refine BZ7.out.mono ?_
    rintro e w8 ⟨A8, n8, c8, rfl, b8, x8⟩
    have v1 := CV.out _ _ _ _ _ b8
    have v2 := CV.out _ _ _ _ _ (bb5.out.ext (x67.out.trans x8))
    have F := Lib.hid (y5.out.trans (x67.out.trans x8))
    clear BZ7 b8 bb5 x67 x8 CV k6 y5
    by_cases hz : eb = 0
    · obtain ⟨rfl, rfl⟩ := ZF.out hz
      subst hz
      have u7 : ((strL bz).toList == (strL bz).toList) = true := by simp
      clear ZF
      go_wp2_with fail
      go_ret
      exact ⟨rfl, F.out⟩
    · have u8 : (eb == 0) = false := beq_false_of_ne hz
      clear ZF
      go_wp2_with fail
      go_ret
      exact ⟨rfl, F.out⟩
end Go.Proofs.YtmnohmhhmaeljaaDoor
end
