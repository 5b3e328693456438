import Derived.Test.YteaoacinhdjkeaaRfSec
import Derived.Deep.Matrix
section
/-
  palfreyref22: Record.
-/
namespace Go.Proofs.Yteaoacinhdjkeaa
open Go.ChangeShapes Go.WideShapes Go.ChangeAt Go.RowKit Go.Deep Go.Maps
set_option maxRecDepth 100000

/-- What the document's Record tests. -/
theorem recL_iff {i : Nat} {s : List UInt8} (hs : s.length = 64) (hi : i < 4294967295) (hn : bt s 4 ≤ 59) :
    (recL i s).isSome = decide (secL i ((s.drop 5).take (bt s 4)) = s) ∧ ∀ y, recL i s = some y → y = (s.drop 5).take (bt s 4) := by
  have hx : ((s.drop 5).take (bt s 4)).length = bt s 4 := by rw [List.length_take, List.length_drop]; omega
  have h2 : ∀ y, recL i s = some y → y = (s.drop 5).take (bt s 4) := fun y h => by
    unfold recL at h
    split at h
    · exact (Option.some.inj h).symm
    · cases h
  refine ⟨?_, h2⟩
  by_cases q : secL i ((s.drop 5).take (bt s 4)) = s
  · have := recL_sec (i := i) (xs := (s.drop 5).take (bt s 4)) (by rw [hx]; exact hn) hi
    rw [q] at this
    rw [this, decide_eq_true q]
    rfl
  · rw [decide_eq_false q]
    cases hr : recL i s with
    | none => rfl
    | some y =>
      exfalso
      apply q
      unfold recL at hr
      split at hr
      · rename_i c
        obtain ⟨c1, _, c3⟩ := c
        have t4 : s.take 4 = (lowL (i + 1) 4).reverse := by
          have e4 : (s.take 4).reverse.length = 4 := by rw [List.length_reverse, List.length_take]; omega
          have e5 := lowL_ofLowL (s.take 4).reverse
          rw [e4, c1] at e5
          rw [e5, List.reverse_reverse]
        rw [secL_eq (by rw [hx]; exact hn), hx, ← t4]
        have z : List.replicate (59 - bt s 4) (0 : UInt8) = (s.drop 5).drop (bt s 4) := list_bt (by simp [hs]; omega) fun j hj => by
          rw [List.length_replicate] at hj
          rw [bt_drop, bt_drop, ← Nat.add_assoc, c3 j hj]
          show bt (List.replicate (59 - bt s 4) 0) j = 0
          generalize bt s 4 = nn at *
          unfold bt
          rw [List.getD_eq_getElem?_getD, List.getElem?_replicate, if_pos hj]
          rfl
        have d4 : s.drop 4 = [UInt8.ofNat (bt s 4)] ++ s.drop 5 := by
          rw [List.drop_eq_getElem_cons (by omega)]
          have : UInt8.ofNat (bt s 4) = s[4]'(by omega) := by
            unfold bt
            rw [List.getD_eq_getElem?_getD, List.getElem?_eq_getElem (by omega)]
            simp
          rw [this]
          rfl
        rw [z, List.take_append_drop, List.append_assoc, ← d4, List.take_append_drop]
      · cases hr
theorem rsec_guard22 : Try.prog.eqGuardType Try.prog.depth 48 = false := by kernel_rfl
theorem rsec_equal22 {xs ys : List UInt8} (hx : xs.length = 64) (hy : ys.length = 64) (w : World) :
    (Op.equalIn 10000 48 (.agg (cellsOf xs).toArray) (.agg (cellsOf ys).toArray)).run Try.prog w = .ok (decide (xs = ys)) w := by
  rw [cellsOf_cell, cellsOf_cell, run_equalIn_bytes w 9998 48 5 64 rfl rfl (fun _ => rfl) xs ys hx hy]
  congr 1
  rw [Bool.eq_iff_iff]; simp
theorem exec_eql_rsec22 {o : Oper} {a : Act} {w : World} {x y : Operand} {t' : TypeId} {xs ys : List UInt8} {b : Bool} (hb : decide (xs = ys) = b) (lx : xs.length = 64) (ly : ys.length = 64) (ho : o.op = .binOp .eql 48 x y t') (hx : a.eval x = .agg (cellsOf xs).toArray) (hy : a.eval y = .agg (cellsOf ys).toArray) :
    (execOp a.eval o).run Try.prog w = .ok (.value (.bool b)) w := by
  unfold execOp
  simp only [ho, hx, hy, Sem.run_bind, run_eqGuard_agg _ _ _ _ _ _ _ rsec_guard22, Result.andThen_ok, run_eql_struct, rsec_equal22 lx ly, Sem.run_pure, hb]
end Go.Proofs.Yteaoacinhdjkeaa
end

section
/-
  palfreyref22: Record, its contract.
-/
namespace Go.Proofs.Yteaoacinhdjkeaa
open Go.ChangeShapes Go.WideShapes Go.ChangeAt Go.RowKit Go.Deep Go.Maps
set_option maxRecDepth 100000

theorem rsector_rec {w : World} {g z : Nat} (hz : z ≤ 59) : (Instr.sliceAt 48 (.pointer (some ⟨g, 0, none⟩)) (some (.int .i64 5)) (some (.int .i64 (5 + (z : Int)))) none).run Try.prog w = .ok (.slice (some ⟨g, 5, none⟩) z 59) w := by
  have hn : Try.prog.arrayLen 48 = 64 := rfl
  rw [run_sliceAt_array_lh w 48 _ rfl .i64 .i64 _ _ (by omega) (by omega) (by rw [hn]; omega)]
  have hs : (sizeOf (Try.prog.elem 48)).run Try.prog w = .ok 1 w := rfl
  rw [hs]
  have h2 : (5 + (z : Int)).toNat = 5 + z := by omega
  have h3 : (⟨g, 0, none⟩ : Addr).add (5 * 1) = ⟨g, 5, none⟩ := by unfold Addr.add; split <;> simp_all
  show Result.ok (slicedAt _ _ _ _ _) w = _
  rw [hn, h2]
  unfold slicedAt
  rw [show (5 : Int).toNat = 5 from rfl, if_neg (by omega), h3, show 5 + z - 5 = z by omega]
set_option maxHeartbeats 4000000 in
theorem rrecord22_calls {w : World} {i : Nat} {s : List UInt8} (hi : i < 4294967295) (hl : s.length = 64) :
    Calls Try.prog 42 #[.int .i64 (i : Int), .agg (cellsOf s).toArray] w fun e w' => Ext w w' ∧ ∃ A n c, e = .returned (.tuple #[.slice A n c, .bool (recL i s).isSome]) ∧ ∀ y, recL i s = some y → Own w.heap.size w' A n c y := by
  obtain ⟨z, hz⟩ : ∃ q, q = bt s 4 := ⟨_, rfl⟩
  have z256 : z < 256 := by rw [hz]; exact bt_lt s 4
  have m3 : IntKind.i64.wrap (z : Int) = (z : Int) := IntWalk.i64_in _ (by omega)
  have m5 : IntKind.i64.wrap (5 + (z : Int)) = 5 + (z : Int) := IntWalk.i64_in _ (by omega)
  have S_s : Hid ((cellsOf s).toArray.size = 64) := by unfold Hid; simp [cellsOf_len, hl]
  obtain ⟨r, hr⟩ : ∃ r, r = w.heap.size := ⟨_, rfl⟩
  have B0 : Hid (Cb (w.alloc (.cells (cellsOf s).toArray 48)) r 48 (cellsOf s) ∧ Ext w (w.alloc (.cells (cellsOf s).toArray 48))) := by rw [hr]; exact ⟨Cb.new _ _ _, (Ext.refl w).alloc _⟩
  have RI : Hid (z ≤ 59 → (recL i s).isSome = decide (secL i ((s.drop 5).take z) = s) ∧ ∀ y, recL i s = some y → y = (s.drop 5).take z) := fun h => by rw [hz] at h ⊢; exact recL_iff hl hi h
  have RN : Hid (59 < z → recL i s = none) := fun h => by unfold recL; rw [if_neg]; rintro ⟨_, q, _⟩; omega
  have CG : Hid (∀ W, Cb W r 48 (cellsOf s) → W.cell? ⟨r, 4, none⟩ = some (.int .u8 (z : Int)) ∧ (z ≤ 59 → Bs W (some ⟨r, 5, none⟩) z 59 ((s.drop 5).take z))) := fun W k => by
    refine ⟨by rw [hz]; exact k.cell (by rw [cellsOf_get (by omega)]), fun h => ?_⟩
    exact Bs.recap (k.bs (p := cellsOf (s.take 5)) (xs := (s.drop 5).take z) (q := cellsOf ((s.drop 5).drop z)) (n := z) (off := 5) (by rw [← cellsOf_app22, List.take_append_drop, ← cellsOf_app22, List.take_append_drop]) (by rw [cellsOf_len, List.length_take]; omega) (by rw [List.length_take, List.length_drop]; omega) (by omega)) (by omega)
  go_enter Try.func42, Try.ntmps42
  go_upto_region 1 with fail
  refine wp_gen (fun W => Cb W r 48 (cellsOf s) ∧ Ext w W) B0.out ?_
  rw [← hr]
  have wr : w.heap.size ≤ r := Nat.le_of_eq hr.symm
  replace hr := Lib.hid hr
  clear B0
  rintro w0 ⟨k0, x0⟩
  obtain ⟨c4, b5⟩ := CG.out _ k0
  replace hz := Lib.hid hz
  clear CG
  by_cases h59 : z ≤ 59
  · have l1 : decide ((59 : Int) < (z : Int)) = false := decide_eq_false (by omega)
    have hsr := fun W : World => rsector_rec (w := W) (g := r) h59
    have xa : Ext w0 (w0.alloc (.cells #[] 5)) := (Ext.refl w0).alloc _
    have b5a := Lib.hid ((b5 h59).ext xa)
    have hbl := (b5 h59).len
    have oe := Lib.hid (Own.empty w0 w0.heap.size (Nat.le_refl _))
    have szA : w0.heap.size ≤ (w0.alloc (.cells #[] 5)).heap.size := xa.size
    obtain ⟨q1, q2⟩ := RI.out h59
    have SL := secL_len (i := i) (xs := (s.drop 5).take z) (by rw [hbl]; exact h59)
    generalize (s.drop 5).take z = x at *
    replace q1 := Lib.hid q1
    replace q2 := Lib.hid q2
    replace k0 := Lib.hid k0
    replace x0 := Lib.hid x0
    replace xa := Lib.hid xa
    clear b5 RI RN
    go_upto_region 5 with (at_builtin; refine wpList_append_bs rfl (B := w0.heap.size) (s := .tmp 13) (x := .tmp 16) rfl rfl rfl oe.out b5a.out (by omega) szA ?_; intro D2 cc2 w2 o2 hg2 hbl2; rw [Nat.zero_add] at o2; rw [Nat.zero_add]; replace o2 := Lib.hid o2; have x02 := Lib.hid (xa.out.trans' hbl2))
    rw [List.nil_append] at o2
    have k02 := Lib.hid (k0.out.ext x02.out)
    have SC := Lib.hid (rsector22_calls (w := w2.drew) hi (o2.out.bs.ext (Ext.refl w2).drew) h59)
    have KP : Hid (∀ s', Ext w2.drew s' → Cb s' r 48 (cellsOf s)) := fun s' e => (k02.out.ext (Ext.refl w2).drew).ext e
    have X2 := Lib.hid ((x0.out.trans x02.out).drew)
    replace o2 : Hid (Own w0.heap.size w2.drew D2 z cc2 x) := o2.out.ext (Ext.refl w2).drew
    have s0 : w.heap.size ≤ w0.heap.size := x0.out.size
    clear oe b5a x02 k02 k0 x0 xa
    refine qgE [0, 1, 2, 4, 3, 5, 6, 7] [3] ?_
    repeat ((first | refine qR0 ?_ | refine qS ?_); go_frame)
    refine qV rfl (fun w' => w'.heap[r]? = some (.cells (cellsOf s).toArray 48 (0, 0))) (fun w' e => KP.out w' e) (.agg (cellsOf s).toArray) (fun w' hF => exec_load_row rfl rfl hF rfl rfl (by rw [S_s.out]; rfl)) ?_
    go_frame
    generalize w2.drew = V at *
    refine qD fun K hK => ?_
    go_simp
    refine SC.out.mono ?_
    rintro e w3 ⟨rfl, x3⟩
    refine hK.out _ _ x3 ?_
    clear hK K
    try go_frame
    have X3 := Lib.hid (X2.out.trans x3)
    have o3 := Lib.hid ((o2.out.ext x3).mono22 s0)
    clear SC KP X2 o2 x3
    refine qV rfl (fun _ => True) (fun _ _ => trivial) (.bool (decide (secL i x = s))) (fun w' _ => exec_eql_rsec22 rfl SL hl rfl rfl rfl) ?_
    go_frame
    repeat ((first | refine qR0 ?_ | refine qS ?_); go_frame)
    refine seq_done ?_
    generalize secL i x = ss at *
    go_wp2_with fail
    go_ret2
    exact ⟨X3.out, D2, z, cc2, by rw [q1.out]; rfl, fun y q => by rw [q2.out y q]; exact o3.out⟩
  · have l1 : decide ((59 : Int) < (z : Int)) = true := decide_eq_true (by omega)
    have F := Lib.hid (RN.out (by omega))
    replace x0 := Lib.hid x0
    clear RI RN k0 b5
    go_wp2_with fail
    go_ret2
    exact ⟨x0.out, none, 0, 0, by rw [F.out]; rfl, fun y q => (by rw [F.out] at q; cases q)⟩
end Go.Proofs.Yteaoacinhdjkeaa
end

section
/-
  palfreyref22: Open.
-/
namespace Go.Proofs.Yteaoacinhdjkeaa
open Go.ChangeShapes Go.WideShapes Go.ChangeAt Go.RowKit Go.Deep Go.Maps
set_option maxRecDepth 100000

/-- The document's journal at block g, of its disk at block dg: its records. -/
def RJ (B : Nat) (w : World) (g dg : Nat) (D : Option Addr) (c : Nat) (L : List (List UInt8)) : Prop := Cb w g 53 [.pointer (some ⟨dg, 0, none⟩), .slice D L.length c] ∧ OwnG B w D L.length c L ∧ B ≤ g
theorem RJ.ext {B : Nat} {w w' : World} {g dg : Nat} {D : Option Addr} {c : Nat} {L : List (List UInt8)} (h : RJ B w g dg D c L) (x : Ext w w') : RJ B w' g dg D c L := ⟨h.1.ext x, h.2.1.ext x, h.2.2⟩
theorem rjopen_none {w : World} : Calls Try.prog 15 #[.pointer none] w fun e w' => e = .returned (.tuple #[.pointer none, .int .i64 1]) ∧ w' = w := by
  go_enter Try.func15, Try.ntmps15
  go_wp2_with fail
  go_ret2
  exact ⟨rfl, rfl⟩
set_option maxHeartbeats 4000000 in
theorem rjopen_calls {w : World} {dg r m ir : Nat} {d : Ds} {X : List (List UInt8)} (h : RD w dg r m ir d X) :
    Calls Try.prog 15 #[.pointer (some ⟨dg, 0, none⟩)] w fun e w' => ∃ g D c, e = .returned (.tuple #[.pointer (some ⟨g, 0, none⟩), .int .i64 0]) ∧ RJ w.heap.size w' g dg D c d.recs ∧ Ext w w' := by
  have ok := h.ok
  have dm := ok.most
  have h64 := Lib.hid (read_len22 ok)
  replace h := Lib.hid h
  obtain ⟨g, hg⟩ : ∃ g, g = w.heap.size := ⟨_, rfl⟩
  have B0 : Hid (RJ g (w.alloc (.cells #[.pointer (some ⟨dg, 0, none⟩), .slice none 0 0] 53)) g dg none 0 [] ∧ Ext w (w.alloc (.cells #[.pointer (some ⟨dg, 0, none⟩), .slice none 0 0] 53))) := by rw [hg]; exact ⟨⟨Cb.new _ _ [_, _], OwnG.nil _ _, Nat.le_refl _⟩, (Ext.refl w).alloc _⟩
  rw [← hg]
  go_enter Try.func15, Try.ntmps15
  go_upto_region 4 with fail
  refine wp_gen (fun W => RJ g W g dg none 0 [] ∧ Ext w W) B0.out ?_
  rw [← hg]
  replace hg := Lib.hid hg
  clear B0
  rintro w0 ⟨k0, x0⟩
  replace k0 := Lib.hid k0
  replace x0 := Lib.hid x0
  go_wp2_with fail
  go_loopw [5] (fun i wr => ∃ (pre : List (List UInt8)) (D : Option Addr) (c : Nat), i = .int .i64 (pre.length : Int) ∧ Pre22 d pre ∧ RJ g wr g dg D c pre ∧ Ext w wr) (fun i _ => d.S.length - (intOf i).toNat)
  case atStart => exact ⟨[], none, 0, rfl, ⟨Nat.zero_le _, fun j hj => absurd hj (Nat.not_lt_zero _)⟩, k0.out, x0.out⟩
  case round =>
    clear k0 x0
    obtain ⟨pre, D, c, rfl, hp, jk, xr⟩ := hrel
    have rd := h.out.ext xr
    have cS := rd.cb.cell (j := 0) rfl
    have hpl := hp.1
    by_cases hlt : pre.length < d.S.length
    · have l1 : decide ((pre.length : Int) < (d.S.length : Int)) = true := decide_eq_true (by omega)
      have RR := Lib.hid (rread_calls rd (i := (pre.length : Int)))
      replace hp := Lib.hid hp
      replace jk := Lib.hid jk
      replace xr := Lib.hid xr
      clear rd
      have L6 := h64.out (pre.length : Int)
      have RC : Hid (∀ w, Calls Try.prog 42 #[.int .i64 (pre.length : Int), .agg (cellsOf (d.read (pre.length : Int))).toArray] w fun e w' => Ext w w' ∧ ∃ A n c, e = .returned (.tuple #[.slice A n c, .bool (recL pre.length (d.read (pre.length : Int))).isSome]) ∧ ∀ y, recL pre.length (d.read (pre.length : Int)) = some y → Own w.heap.size w' A n c y) := fun w => rrecord22_calls (by omega) L6
      obtain ⟨ro, hro⟩ : ∃ q, q = recL pre.length (d.read (pre.length : Int)) := ⟨_, rfl⟩
      rw [← hro] at RC
      replace hro := Lib.hid hro
      generalize d.read (pre.length : Int) = s at RR RC L6
      generalize d.readE (pre.length : Int) = ee at RR
      have S_s : Hid ((cellsOf s).toArray.size = 64) := by unfold Hid; simp [cellsOf_len, L6]
      have O_s := Lib.hid (cellsOf_one s)
      have hal := rsector_alloc
      have hzs : zS64.toArray.size = 64 := by rw [List.size_toArray, zS64_len]
      obtain ⟨Z, hZ⟩ : ∃ q, q = zS64 := ⟨_, rfl⟩
      rw [← hZ] at hal hzs
      clear hZ
      have hz6 : Hid (Z.toArray.size = 64) := hzs
      clear hzs
      go_wp2_with fail
      refine RR.out.mono ?_
      rintro e w1 ⟨rfl, x1⟩
      have zE := Lib.hid (heap_alloc_new w1 (.cells Z.toArray 48))
      obtain ⟨r4, hr4⟩ : ∃ q, q = w1.heap.size := ⟨_, rfl⟩
      rw [← hr4] at zE
      have F4 : Hid (Cb ((w1.alloc (.cells Z.toArray 48)).setRow r4 (cellsOf s).toArray) r4 48 (cellsOf s) ∧ Ext wr ((w1.alloc (.cells Z.toArray 48)).setRow r4 (cellsOf s).toArray)) := ⟨setRow_heap _ _ _ _ _ _ zE.out, x1.trans (by rw [hr4]; exact Ext.newRow w1 _ _)⟩
      clear x1 RR
      go_upto_region 8 with (refine wpList_store_row rfl 48 _ _ rfl r4 (cellsOf s).toArray ?_ rfl 48 Z.toArray zE.out ?_ ?_ O_s.out ?_; (rw [hr4]; rfl); (rw [S_s.out]; rfl); (rw [S_s.out, hz6.out]); simp only [Act.put])
      refine wp_gen (fun V => Cb V r4 48 (cellsOf s) ∧ Ext wr V) F4.out ?_
      rw [← hr4]
      replace hr4 := Lib.hid hr4
      clear F4 zE hal
      rintro w3 ⟨k4, x3⟩
      have RC3 := Lib.hid (RC.out w3)
      replace k4 := Lib.hid k4
      replace x3 := Lib.hid x3
      clear RC
      go_wp2_with (refine wpList_load_row rfl 48 _ rfl r4 rfl 48 (cellsOf s).toArray (0, 0) _ k4.out rfl rfl ?_ ?_; (rw [S_s.out]; rfl); go_frame)
      refine RC3.out.mono ?_
      rintro e w4 ⟨x4, A, mm, c4, rfl, hown⟩
      have jk4 := jk.out.ext (x3.out.trans x4)
      have xr4 := Lib.hid (xr.out.trans (x3.out.trans x4))
      cases ro with
      | none =>
        have F := Lib.hid (hp.out.full (.inr hro.out.symm))
        have JF : Hid (RJ g w4 g dg D c d.recs) := by rw [← F.out]; exact jk4
        clear jk4 RC3 x4 hown
        go_wp2_with fail
        go_ret2
        exact ⟨g, D, c, rfl, JF.out, xr4.out⟩
      | some x =>
        have ow := hown x rfl
        have hp1 := Lib.hid (hp.out.snoc hlt hro.out.symm)
        have hfar := Lib.hid (far_of_newG ow (jk.out.2.1.ext x3.out) (Nat.le_trans (Nat.le_of_lt jk.out.1.lt) x3.out.size))
        have xa : Ext w4 (w4.alloc (.cells #[.slice A mm c4] 37)) := (Ext.refl w4).alloc _
        have b3 := Lib.hid (ow.bs.ext xa)
        have hc := Lib.hid ((Cb.new w4 37 [.slice A mm c4]).cell (j := 0) rfl)
        have jo3 := Lib.hid (jk4.2.1.ext xa)
        have jg3 := Lib.hid (jk4.1.ext xa)
        have ng := jk4.2.1.ne_of jk4.1 (by decide)
        have c1 := jk4.1.cell (j := 1) rfl
        have sz3 : Hid (g ≤ (w4.alloc (.cells #[.slice A mm c4] 37)).heap.size) := Nat.le_of_lt jg3.out.lt
        have xr5 := Lib.hid (xr4.out.trans xa)
        have hlow : Hid (∀ i, Value.ownBlock (.slice D pre.length c) = some i → g ≤ i) := jk4.2.1.ge
        replace ng := Lib.hid ng
        clear jk4 RC3 x4 hown ow xa
        go_wp2_with (refine wpList_plain rfl fun K hK => ?_; refine wp_append_rg2 (B := g) (b := w4.heap.size) rfl rfl rfl jo3.out hc.out b3.out hfar.out (by omega) sz3.out ?_; intro D2 c2 w5 o5 g5 e5; have jg5 : Cb w5 g 53 [.pointer (some ⟨dg, 0, none⟩), .slice D pre.length c] := (g5.block _ (heap_lt jg3.out) (fun q => ng.out q.symm)).trans jg3.out; have cg5 := jg5.cell (j := 1) rfl; have fg5 := jg5.frozen 1; have x5 : Ext w w5 := Ot.ext (p := fun i => Value.ownBlock (.slice D pre.length c) = some i) xr5.out ⟨g5.os, g5.tape, g5.output, g5.size, fun i hi hn => g5.block i hi (fun q => hn q.symm)⟩ (fun i q => Nat.le_trans (Nat.le_of_eq hg.out.symm) (hlow.out i q)); replace jg5 := Lib.hid jg5; replace x5 := Lib.hid x5; replace o5 := Lib.hid o5; refine hK _ _ ?_)
        have gr1 := gr_cell22 w5 g 1 (.slice D2 (pre.length + 1) c2)
        go_roundw
        case rel =>
          refine ⟨pre ++ [x], D2, c2, by simp, hp1.out, ⟨?_, ?_, Nat.le_refl _⟩, Ot.ext (p := fun i => i = g) x5.out (Ot.of_grown gr1 rfl) (fun i q => by rw [q, hg.out]; exact Nat.le_refl _)⟩
          · rw [show (pre ++ [x]).length = pre.length + 1 by simp]
            exact jg5.out.setCell
          · rw [show (pre ++ [x]).length = pre.length + 1 by simp]
            exact o5.out.turn jg5.out (by decide) (by rintro v hv i rfl; simp at hv) gr1
        case measure => simp [intOf]; omega
    · have l1 : decide ((pre.length : Int) < (d.S.length : Int)) = false := decide_eq_false (by omega)
      have F := Lib.hid (hp.full (.inl (by omega)))
      have JF : Hid (RJ g wr g dg D c d.recs) := by rw [← F.out]; exact jk
      replace xr := Lib.hid xr
      clear hp jk rd
      go_wp2_with fail
      go_ret2
      exact ⟨g, D, c, rfl, JF.out, xr.out⟩
end Go.Proofs.Yteaoacinhdjkeaa
end
