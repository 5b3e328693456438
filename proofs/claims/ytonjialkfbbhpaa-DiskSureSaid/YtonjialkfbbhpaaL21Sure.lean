/-
  The law DiskSure.
-/
import Derived.Test.YtonjialkfbbhpaaSu21
import Derived.Deep.DeepCutAuto
namespace Go.Proofs.Ytonjialkfbbhpaa
open Go.ChangeShapes Go.WideShapes Go.ChangeAt Go.RowKit Go.Deep Go.Maps
set_option maxRecDepth 100000

/-- The row of what is read of the first k of eight sectors. -/
def rdW (d : Ds) (k : Nat) : List (List UInt8) := (List.range 8).map fun (j : Nat) => if j < k then d.read (j : Int) else List.replicate 64 0
theorem rdW_len (d : Ds) (k : Nat) : (rdW d k).length = 8 := by simp [rdW]
theorem rdW_at {d : Ds} {k j : Nat} (h : j < 8) : (rdW d k).getD j [] = if j < k then d.read (j : Int) else List.replicate 64 0 := by
  unfold rdW
  rw [List.getD_eq_getElem?_getD, List.getElem?_map, List.getElem?_range h]
  rfl
theorem rdW_zero (d : Ds) : rdW d 0 = z8 := by
  unfold rdW z8
  apply List.ext_getElem?
  intro i
  rw [List.getElem?_map, List.getElem?_replicate]
  by_cases h : i < 8
  · rw [List.getElem?_range h, if_pos h, Option.map_some, if_neg (by omega)]
  · rw [List.getElem?_eq_none (by rw [List.length_range]; omega), if_neg h]; rfl
theorem rdW_step {d : Ds} {k : Nat} (h : k < 8) : rdW d (k + 1) = (rdW d k).set k (d.read (k : Int)) := by
  apply List.ext_getElem (by rw [List.length_set, rdW_len, rdW_len])
  intro i h1 h2
  rw [rdW_len] at h1
  have e1 := rdW_at (d := d) (k := k + 1) h1
  have e2 := rdW_at (d := d) (k := k) h1
  rw [List.getD_eq_getElem?_getD, List.getElem?_eq_getElem (by rw [rdW_len]; exact h1), Option.getD_some] at e1 e2
  rw [e1, List.getElem_set]
  by_cases q : k = i
  · subst q; rw [if_pos rfl, if_pos (by omega)]
  · rw [if_neg q, e2]
    by_cases z : i < k
    · rw [if_pos z, if_pos (by omega)]
    · rw [if_neg z, if_neg (by omega)]
theorem rdW_64 {d : Ds} (ok : d.ok) (k : Nat) : ∀ s ∈ rdW d k, s.length = 64 := fun s hs => by
  obtain ⟨j, _, rfl⟩ := List.mem_map.1 hs
  split
  · exact read_len21 ok _
  · rfl
theorem grown_ofE22 {w w' : World} {g : Nat} (h : Ext w w') : w.grownBy w' (some g) := ⟨h.os, h.tape, h.output, h.size, fun i hi _ => h.block i hi⟩
/-- What the checks behind the crash tell. -/
theorem sure_tests {d1 d2 : Ds} (u1 : Up d1 8) (n1 : ∀ j, d1.N j = none) (u2 : Up d2 8) (hS : d2.S = d1.S) {kept k : Nat} (hk : k < 8) :
    ((d2.crash kept).read (k : Int) = d1.read (k : Int) ∨ (d2.crash kept).read (k : Int) = d2.read (k : Int)) ∧ (kept = 18446744073709551615 → (d2.crash kept).read (k : Int) = d2.read (k : Int)) ∧ (kept = 0 → (d2.crash kept).read (k : Int) = d1.read (k : Int)) := by
  have e1 : d1.read (k : Int) = d2.S.getD k [] := by rw [(u1.read hk).1, n1 k, hS]; rfl
  rw [e1]
  refine ⟨u2.crash_one hk, fun q => ?_, fun q => ?_⟩
  · rw [q]; exact u2.crash_ones (by omega) hk
  · rw [q]; exact u2.crash_none hk
set_option maxHeartbeats 16000000 in
theorem sure21_calls {w : World} {LO LM : List O21} {A A' : Option Addr} {len cap len' cap' kept : Nat} (hl : Cs w 4 A len cap (LO.map O21.C)) (ol : ∀ o ∈ LO, o.ok) (hm : Cs w 4 A' len' cap' (LM.map O21.C)) (om : ∀ o ∈ LM, o.ok) (hk : kept < 18446744073709551616) :
    Calls Try.prog 9 #[.slice A len cap, .slice A' len' cap', .int .u64 (kept : Int)] w fun e w' => e = .returned (.bool true) ∧ Ext w w' := by
  have AW := Lib.hid (fun (W : World) => awake21_calls (w := W))
  have NW := Lib.hid (fun (W : World) => dnew_ok (w := W) (n := 8) (by omega) (by omega))
  have OA := Lib.hid (fun i (hi : i < len) => o21_at hl ol hi)
  have OB := Lib.hid (fun i (hi : i < len') => o21_at hm om hi)
  have hal1 := want_alloc
  have hal2 := sector_alloc
  have q1 := hl.2.1
  have q2 : cap ≤ 9223372036854775807 := by have := q1.2; unfold maxLen at this; omega
  have q3 := hm.2.1
  have q4 : cap' ≤ 9223372036854775807 := by have := q3.2; unfold maxLen at this; omega
  have Lz := zS64_len
  generalize zS64 = ZL at *
  have S_ZL : ZL.toArray.size = 64 := by rw [List.size_toArray, Lz]
  clear hl ol hm om
  obtain ⟨ZC, hZC⟩ : ∃ ZC, ZC = (z8.map cellsOf).flatten := ⟨_, rfl⟩
  rw [← hZC] at hal1
  replace hZC := Lib.hid (fun _ : Unit => hZC)
  go_enter Try.func9, Try.ntmps9
  go_wp2_with fail
  refine (AW.out _).mono ?_
  rintro e w1 ⟨rfl, x1⟩
  replace x1 := Lib.hid x1
  have NW1 := Lib.hid (NW.out w1)
  clear AW NW
  go_wp2_with fail
  refine NW1.out.mono ?_
  rintro e w2 ⟨g, r, mb0, rfl, wg, wrr, wb, k2, x2⟩
  have X2 : Hid (Ext w w2) := x1.out.trans x2
  have gs := x1.out.size
  replace wg : w.heap.size ≤ g := Nat.le_trans gs wg
  replace wrr : w.heap.size ≤ r := Nat.le_trans gs wrr
  replace wb : w.heap.size ≤ mb0 := Nat.le_trans gs wb
  replace k2 := Lib.hid k2
  clear NW1 x1 x2 gs
  rcases Decidable.em (60 < len) with h60 | h60
  · have u3 : decide ((60 : Int) < (len : Int)) = true := decide_eq_true (by omega)
    clear k2 OA OB
    go_wp2_with fail
    go_ret
    exact ⟨rfl, X2.out⟩
  have u3 : decide ((60 : Int) < (len : Int)) = false := decide_eq_false (by omega)
  rcases Decidable.em (60 < len') with m60 | m60
  · have u4 : decide ((60 : Int) < (len' : Int)) = true := decide_eq_true (by omega)
    clear k2 OA OB
    go_wp2_with fail
    go_ret
    exact ⟨rfl, X2.out⟩
  have u4 : decide ((60 : Int) < (len' : Int)) = false := decide_eq_false (by omega)
  go_wp2_with fail
  go_loopw [10] (fun v wr => ∃ (i mb : Nat) (d : Ds), i ≤ len ∧ v = .int .i64 (i : Int) ∧ DK wr g r mb d ∧ Up d 8 ∧ True ∧ w.heap.size ≤ mb ∧ Ext w wr) (fun v _ => len - (intOf v).toNat)
  case atStart => exact ⟨0, mb0, _, Nat.zero_le _, rfl, k2.out, Up.new (by omega), trivial, wb, X2.out⟩
  case round =>
    clear k2 X2 wb
    obtain ⟨i, mb, d, hi, rfl, dk, up, ex, wb, xr⟩ := hrel
    by_cases hlt : i < len
    · obtain ⟨b0, off, o, rfl, _, hok, hb0, oc⟩ := OA.out i hlt
      obtain ⟨_, c1, c2, _⟩ := oc wr xr
      have hwi : IntKind.i64.wrap ((i : Int) + 1) = (i : Int) + 1 := IntWalk.i64_in _ (by omega)
      have u1 : (0 : Int) ≤ (i : Int) := by omega
      have u2 : (i : Int) < (len : Int) := by omega
      obtain ⟨od, oi, ob, kp⟩ := o
      dsimp only at c1 c2
      have OF := Lib.hid (fun W' => of21_calls (w := W') (b := ob))
      have upn := Lib.hid (up.write oi (secB ob))
      have EXN : Hid (∀ s, Two g mb wr.drew s → True) := fun s t => by
        trivial
      have F11 : Hid (∀ s, Two g mb wr.drew s → Ext w s ∧ s.cell? ⟨b0, off + i * 4 + 1, none⟩ = some (.int .i64 oi) ∧ s.cell? ⟨b0, off + i * 4 + 2, none⟩ = some (.int .u8 (ob.toNat : Int))) := fun s e => by
        have x := e.ext xr.drew wg wb
        obtain ⟨_, c1, c2, _⟩ := oc s x
        exact ⟨x, c1, c2⟩
      have WR : Hid (∀ s, Ext wr.drew s → Calls Try.prog 23 #[.pointer (some ⟨g, 0, none⟩), .int .i64 oi, .agg (cellsOf (secB ob)).toArray] s fun e w' => e = .returned (.int .i64 (d.writeE oi)) ∧ DK w' g r mb (d.write oi (secB ob)) ∧ Two g mb s w') := fun s e => dwrite_calls (i := oi) (dk.ext ((Ext.refl wr).drew.trans e)) (secB_len ob)
      clear oc dk up ex xr
      go_upto_region 8 with fail
      clear c1 c2
      refine wp_region_seq (R := Two g mb) (Two.refl _ _) (fun _ _ _ => Two.trans) [0, 1, 2, 3, 4, 5, 6, 7, 8, 9, 10, 11, 12] [11, 12] [(0, 57, 512), (0, 58, 2), (0, 59, 2048), (6, 60, 864691128455135232), (8, 61, 1152921504606846976), (16, 62, 2305843009213693952), (0, 63, 2), (0, 64, 2048), (192, 65, 27670116110564327424), (256, 66, 36893488147419103232), (512, 67, 73786976294838206464), (1024, 68, 147573952589676412928), (2081, 69, 299903706385856069632)] (by kernel_rfl) (by kernel_rfl) (by kernel_rfl) rfl (by kernel_rfl) (by kernel_rfl) (fun _ _ d _ _ h => by cases d <;> exact h) ?_
      generalize wr.drew = V at *
      repeat (first | (refine seq_read _ (fun w' e => And.intro (F11.out w' e).2.1 (F11.out w' e).2.2) _ (v := ?_) rfl rfl (by rfl) ?_ ?_; rotate_left; (· intro w' hF; go_simp; (try with_reducible rfl)); simp only [Act.put, List.setIfInBounds_toArray, List.set_cons_zero, List.set_cons_succ]) | (refine seq_skip _ rfl rfl (by rfl) ?_; simp only [Act.put, List.setIfInBounds_toArray, List.set_cons_zero, List.set_cons_succ]))
      refine seq_do _ rfl rfl (by rfl) (fun K hK => ?_)
      go_simp
      refine (OF.out V).mono ?_
      rintro e w4 ⟨rfl, x4⟩
      refine hK.out _ _ (Two.of_ext x4) ?_
      clear hK K
      try simp only [Act.put, List.setIfInBounds_toArray, List.set_cons_zero, List.set_cons_succ]
      have W4 := Lib.hid (WR.out w4 x4)
      clear WR
      repeat (first | (refine seq_read (fun _ => True) (fun _ _ => trivial) _ (v := ?_) rfl rfl (by rfl) ?_ ?_; rotate_left; (· intro w' hF; go_simp; (try with_reducible rfl)); simp only [Act.put, List.setIfInBounds_toArray, List.set_cons_zero, List.set_cons_succ]) | (refine seq_skip _ rfl rfl (by rfl) ?_; simp only [Act.put, List.setIfInBounds_toArray, List.set_cons_zero, List.set_cons_succ]))
      refine seq_do _ rfl rfl (by rfl) (fun K hK => ?_)
      go_simp
      refine W4.out.mono ?_
      rintro e w5 ⟨rfl, k5, t5⟩
      refine hK.out _ _ t5 ?_
      clear hK K
      try simp only [Act.put, List.setIfInBounds_toArray, List.set_cons_zero, List.set_cons_succ]
      have f5 := Lib.hid (And.intro k5 (And.intro (EXN.out w5 ((Two.of_ext x4).trans t5)) (F11.out w5 ((Two.of_ext x4).trans t5)).1))
      clear W4 F11 EXN x4 t5 k5 OF
      repeat (first | (refine seq_read (fun _ => True) (fun _ _ => trivial) _ (v := ?_) rfl rfl (by rfl) ?_ ?_; rotate_left; (· intro w' hF; go_simp; (try with_reducible rfl)); simp only [Act.put, List.setIfInBounds_toArray, List.set_cons_zero, List.set_cons_succ]) | (refine seq_skip _ rfl rfl (by rfl) ?_; simp only [Act.put, List.setIfInBounds_toArray, List.set_cons_zero, List.set_cons_succ]))
      refine seq_done ?_
      go_wp2_with fail
      go_round
      case rel => exact ⟨i + 1, mb, _, by omega, by go_num, f5.out.1, upn.out, f5.out.2.1, wb, f5.out.2.2⟩
      case measure => simp [intOf]; omega
    · have u9 : decide ((i : Int) < (len : Int)) = false := decide_eq_false (by omega)
      have SY := sync_calls dk
      rw [up.sync.1, up.sync.2] at SY
      replace SY := Lib.hid SY
      have UP_d1 := Lib.hid up.flush
      have szr := xr.size
      have wb' := wb
      replace xr := Lib.hid xr
      clear dk OA ex up
      obtain ⟨d1, hd1⟩ : ∃ d1, d1 = d.flush := ⟨_, rfl⟩
      have N1 : Hid (∀ j, d1.N j = none) := fun j => by rw [hd1]; rfl
      rw [← hd1] at SY UP_d1
      clear hd1
      go_wp2_with fail
      refine SY.out.mono ?_
      rintro e w4 ⟨rfl, mb4, k4, h4, t4⟩
      have X4 : Hid (Ext w w4) := t4.ext xr.out wg wrr
      have wb4 : w.heap.size ≤ mb4 := by omega
      have wg12 : w.heap.size ≤ w4.heap.size := X4.out.size
      have K4 : Hid (DK (w4.alloc (.cells ZC.toArray 73)) g r mb4 d1 ∧ Cb (w4.alloc (.cells ZC.toArray 73)) w4.heap.size 73 ((rdW d1 0).map cellsOf).flatten ∧ Ext w (w4.alloc (.cells ZC.toArray 73))) := by
        refine ⟨k4.ext ((Ext.refl _).alloc _), ?_, X4.out.alloc _⟩
        rw [rdW_zero, ← hZC.out ()]
        exact Cb.new _ _ _
      clear SY k4 t4 X4 xr h4 wb wb' szr
      go_upto_region 11 with fail
      refine wp_gen (fun W => DK W g r mb4 d1 ∧ Cb W w4.heap.size 73 ((rdW d1 0).map cellsOf).flatten ∧ Ext w W) K4.out ?_
      generalize w4.heap.size = g12 at *
      clear K4 w4
      generalize mb4 = mb at *
      rintro w5 K5
      replace K5 := Lib.hid K5
      go_wp2_with fail
      go_loopw [13] (fun v wr => ∃ k : Nat, k ≤ 8 ∧ v = .int .i64 (k : Int) ∧ DK wr g r mb d1 ∧ Cb wr g12 73 ((rdW d1 k).map cellsOf).flatten ∧ True ∧ Ext w wr) (fun v _ => 8 - (intOf v).toNat)
      case atStart => exact ⟨0, Nat.zero_le _, rfl, K5.out.1, K5.out.2.1, trivial, K5.out.2.2⟩
      case round =>
        clear K5
        obtain ⟨k, hk8, rfl, dk, kw, ex, xr⟩ := hrel
        by_cases hlt8 : k < 8
        · have u5 : decide ((k : Int) < 8) = true := decide_eq_true (by omega)
          have u6 : (0 : Int) ≤ (k : Int) := by omega
          have u7 : (k : Int) < 8 := by omega
          have hk1 : IntKind.i64.wrap ((k : Int) + 1) = (k : Int) + 1 := IntWalk.i64_in _ (by omega)
          have RE := dread_calls (i := (k : Int)) dk
          have L_y := read_len21 dk.ok (k : Int)
          have RS := rdW_step (d := d1) hlt8
          rw [(UP_d1.out.read hlt8).2] at RE
          replace RE := Lib.hid RE
          have W64 := Lib.hid (rdW_64 dk.ok k)
          obtain ⟨ys, hys⟩ : ∃ ys, ys = d1.read (k : Int) := ⟨_, rfl⟩
          rw [← hys] at RE L_y RS
          clear hys
          have S_y : (cellsOf ys).toArray.size = 64 := by simp [cellsOf_len, L_y]
          have O_y := one_cells (one_mem ys)
          have gk : g12 ≠ g ∧ g12 ≠ r ∧ g12 ≠ mb := ⟨cb_differ kw dk.cb (by decide), cb_differ kw dk.row (by decide), fun e => by
            obtain ⟨es, c, q⟩ := dk.mp.obj
            unfold Cb at kw
            rw [e, q] at kw
            cases kw⟩
          have B8 : Hid (∀ s, Ext wr s → DK s g r mb d1 ∧ Cb s g12 73 ((rdW d1 k).map cellsOf).flatten ∧ True ∧ Ext w s) := fun s e => ⟨dk.ext e, kw.ext e, trivial, xr.trans e⟩
          replace RS := Lib.hid RS
          clear dk kw ex xr
          go_wp2_with fail
          refine RE.out.mono ?_
          rintro e w8 ⟨rfl, x8⟩
          have K8 : Hid (Cb ((w8.alloc (.cells ZL.toArray 58)).setRow w8.heap.size (cellsOf ys).toArray) w8.heap.size 58 (cellsOf ys) ∧ Ext wr ((w8.alloc (.cells ZL.toArray 58)).setRow w8.heap.size (cellsOf ys).toArray)) := ⟨(Cb.new w8 _ ZL).set, x8.trans (Ext.newRow _ _ _)⟩
          clear RE x8
          go_upto_region 15 with (refine wpList_store_row rfl 58 _ _ rfl w8.heap.size (cellsOf ys).toArray rfl rfl 58 ZL.toArray (heap_alloc_new _ _) (by rw [S_y]; rfl) (by rw [S_y, S_ZL]) O_y ?_; simp only [Act.put])
          refine wp_gen (fun W => Cb W w8.heap.size 58 (cellsOf ys) ∧ Ext wr W) K8.out ?_
          generalize w8.heap.size = g11 at *
          clear K8 w8
          rintro w9 ⟨k9, x9⟩
          obtain ⟨dk9, kw9, ex9, xw9⟩ := B8.out w9 x9
          obtain ⟨p1, p2⟩ := put_rows (k := k) kw9 W64.out (by rw [rdW_len]; exact hlt8) L_y
          rw [← RS.out] at p1
          have e9 := grown_setCells (w := w9) (g := g12) (o := k * 64) (vs := cellsOf ys)
          have F9 : Hid (DK (w9.setCells g12 (k * 64) (cellsOf ys)) g r mb d1 ∧ Cb (w9.setCells g12 (k * 64) (cellsOf ys)) g12 73 ((rdW d1 (k + 1)).map cellsOf).flatten ∧ True ∧ Ext w (w9.setCells g12 (k * 64) (cellsOf ys))) :=
            ⟨dk9.stay (e9.block _ dk9.cb.lt (fun z => gk.1 (Option.some.inj z).symm)) (e9.block _ dk9.row.lt (fun z => gk.2.1 (Option.some.inj z).symm)) (e9.block _ dk9.mp.lt (fun z => gk.2.2 (Option.some.inj z).symm)), p1, trivial, Two.ext (g := g12) (g' := g12) xw9 ⟨e9.os, e9.tape, e9.output, e9.size, fun i hi q _ => e9.block i hi (fun z => q (Option.some.inj z))⟩ wg12 wg12⟩
          clear B8 dk9 kw9 ex9 xw9 p1 e9 x9 W64 RS
          replace p2 := Lib.hid p2
          go_wp2_with (first
            | ((with_reducible refine wpList_load_rowW (o := ⟨some 82, _, _, _, _, _⟩) ?_ 58 _ rfl g11 ?_ 58 (cellsOf ys).toArray (0, 0) _ ?_ Try.underlying58 ?_ ?_ ?_); (· rfl); (· rfl); (· exact k9); (· rfl); (· rw [S_y]; rfl); simp only [Act.put, List.setIfInBounds_toArray, List.set_cons_zero, List.set_cons_succ])
            | ((with_reducible refine wpList_store_mid (op := ⟨none, .store 58 (.tmp 83) (.tmp 82), _, _, _, _⟩) ?_ 58 _ _ rfl g12 (k * 64) (cellsOf ys).toArray ?_ ?_ ?_ ?_ ?_ ?_); (· rfl); (· rfl); (· rfl); (· rw [S_y]; exact p2.out); (· rw [S_y]; rfl); (· exact O_y); simp only [Act.put, List.setIfInBounds_toArray, List.set_cons_zero, List.set_cons_succ]))
          go_round
          case rel => exact ⟨k + 1, by omega, by go_num, F9.out.1, F9.out.2.1, F9.out.2.2.1, F9.out.2.2.2⟩
          case measure => simp [intOf]; omega
        · obtain rfl : k = 8 := by omega
          rw [show ((8 : Nat) : Int) = 8 from rfl]
          clear ex
          replace dk := Lib.hid dk
          replace kw := Lib.hid kw
          replace xr := Lib.hid xr
          go_wp2_with fail
          go_loopw [16] (fun v wr => ∃ (i mb : Nat) (d : Ds), i ≤ len' ∧ v = .int .i64 (i : Int) ∧ DK wr g r mb d ∧ Up d 8 ∧ (d.S = d1.S ∧ Cb wr g12 73 ((rdW d1 8).map cellsOf).flatten) ∧ w.heap.size ≤ mb ∧ Ext w wr) (fun v _ => len' - (intOf v).toNat)
          case atStart => exact ⟨0, mb, d1, Nat.zero_le _, rfl, dk.out, UP_d1.out, ⟨rfl, kw.out⟩, wb4, xr.out⟩
          case round =>
            clear dk kw xr
            obtain ⟨i, mb, d, hi, rfl, dk, up, ex, wb, xr⟩ := hrel
            by_cases hlt : i < len'
            · obtain ⟨b0, off, o, rfl, _, hok, hb0, oc⟩ := OB.out i hlt
              obtain ⟨_, c1, c2, _⟩ := oc wr xr
              have hwi : IntKind.i64.wrap ((i : Int) + 1) = (i : Int) + 1 := IntWalk.i64_in _ (by omega)
              have u1 : (0 : Int) ≤ (i : Int) := by omega
              have u2 : (i : Int) < (len' : Int) := by omega
              obtain ⟨od, oi, ob, kp⟩ := o
              dsimp only at c1 c2
              have OF := Lib.hid (fun W' => of21_calls (w := W') (b := ob))
              have upn := Lib.hid (up.write oi (secB ob))
              have EXN : Hid (∀ s, Two g mb wr.drew s → ((d.write oi (secB ob)).S = d1.S ∧ Cb s g12 73 ((rdW d1 8).map cellsOf).flatten)) := fun s t => by
                refine ⟨(write_S up _ _).trans ex.1, Two.block t ex.2 (cb_differ ex.2 dk.cb (by decide)) fun e => ?_⟩
                obtain ⟨es, c, q⟩ := dk.mp.obj
                have z := ex.2
                unfold Cb at z
                rw [e, q] at z
                cases z
              have F11 : Hid (∀ s, Two g mb wr.drew s → Ext w s ∧ s.cell? ⟨b0, off + i * 4 + 1, none⟩ = some (.int .i64 oi) ∧ s.cell? ⟨b0, off + i * 4 + 2, none⟩ = some (.int .u8 (ob.toNat : Int))) := fun s e => by
                have x := e.ext xr.drew wg wb
                obtain ⟨_, c1, c2, _⟩ := oc s x
                exact ⟨x, c1, c2⟩
              have WR : Hid (∀ s, Ext wr.drew s → Calls Try.prog 23 #[.pointer (some ⟨g, 0, none⟩), .int .i64 oi, .agg (cellsOf (secB ob)).toArray] s fun e w' => e = .returned (.int .i64 (d.writeE oi)) ∧ DK w' g r mb (d.write oi (secB ob)) ∧ Two g mb s w') := fun s e => dwrite_calls (i := oi) (dk.ext ((Ext.refl wr).drew.trans e)) (secB_len ob)
              clear oc dk up ex xr
              go_upto_region 19 with fail
              clear c1 c2
              refine wp_region_seq (R := Two g mb) (Two.refl _ _) (fun _ _ _ => Two.trans) [0, 1, 2, 3, 4, 5, 6, 7, 8, 9, 10, 11, 12] [11, 12] [(0, 91, 512), (0, 92, 4), (0, 93, 131072), (6, 94, 14855280471424563298789490688), (8, 95, 19807040628566084398385987584), (16, 96, 39614081257132168796771975168), (0, 97, 4), (0, 98, 131072), (192, 99, 475368975085586025561263702016), (256, 100, 633825300114114700748351602688), (512, 101, 1267650600228229401496703205376), (1024, 102, 2535301200456458802993406410752), (2081, 103, 5152306443505752704130155020288)] (by kernel_rfl) (by kernel_rfl) (by kernel_rfl) rfl (by kernel_rfl) (by kernel_rfl) (fun _ _ d _ _ h => by cases d <;> exact h) ?_
              generalize wr.drew = V at *
              repeat (first | (refine seq_read _ (fun w' e => And.intro (F11.out w' e).2.1 (F11.out w' e).2.2) _ (v := ?_) rfl rfl (by rfl) ?_ ?_; rotate_left; (· intro w' hF; go_simp; (try with_reducible rfl)); simp only [Act.put, List.setIfInBounds_toArray, List.set_cons_zero, List.set_cons_succ]) | (refine seq_skip _ rfl rfl (by rfl) ?_; simp only [Act.put, List.setIfInBounds_toArray, List.set_cons_zero, List.set_cons_succ]))
              refine seq_do _ rfl rfl (by rfl) (fun K hK => ?_)
              go_simp
              refine (OF.out V).mono ?_
              rintro e w4 ⟨rfl, x4⟩
              refine hK.out _ _ (Two.of_ext x4) ?_
              clear hK K
              try simp only [Act.put, List.setIfInBounds_toArray, List.set_cons_zero, List.set_cons_succ]
              have W4 := Lib.hid (WR.out w4 x4)
              clear WR
              repeat (first | (refine seq_read (fun _ => True) (fun _ _ => trivial) _ (v := ?_) rfl rfl (by rfl) ?_ ?_; rotate_left; (· intro w' hF; go_simp; (try with_reducible rfl)); simp only [Act.put, List.setIfInBounds_toArray, List.set_cons_zero, List.set_cons_succ]) | (refine seq_skip _ rfl rfl (by rfl) ?_; simp only [Act.put, List.setIfInBounds_toArray, List.set_cons_zero, List.set_cons_succ]))
              refine seq_do _ rfl rfl (by rfl) (fun K hK => ?_)
              go_simp
              refine W4.out.mono ?_
              rintro e w5 ⟨rfl, k5, t5⟩
              refine hK.out _ _ t5 ?_
              clear hK K
              try simp only [Act.put, List.setIfInBounds_toArray, List.set_cons_zero, List.set_cons_succ]
              have f5 := Lib.hid (And.intro k5 (And.intro (EXN.out w5 ((Two.of_ext x4).trans t5)) (F11.out w5 ((Two.of_ext x4).trans t5)).1))
              clear W4 F11 EXN x4 t5 k5 OF
              repeat (first | (refine seq_read (fun _ => True) (fun _ _ => trivial) _ (v := ?_) rfl rfl (by rfl) ?_ ?_; rotate_left; (· intro w' hF; go_simp; (try with_reducible rfl)); simp only [Act.put, List.setIfInBounds_toArray, List.set_cons_zero, List.set_cons_succ]) | (refine seq_skip _ rfl rfl (by rfl) ?_; simp only [Act.put, List.setIfInBounds_toArray, List.set_cons_zero, List.set_cons_succ]))
              refine seq_done ?_
              go_wp2_with fail
              go_round
              case rel => exact ⟨i + 1, mb, _, by omega, by go_num, f5.out.1, upn.out, f5.out.2.1, wb, f5.out.2.2⟩
              case measure => simp [intOf]; omega
            · have u9 : decide ((i : Int) < (len' : Int)) = false := decide_eq_false (by omega)
              have wg17 : w.heap.size ≤ wr.heap.size := xr.size
              have UP_d := Lib.hid up
              have K4 : Hid (DK (wr.alloc (.cells ZC.toArray 73)) g r mb d ∧ Cb (wr.alloc (.cells ZC.toArray 73)) wr.heap.size 73 ((rdW d 0).map cellsOf).flatten ∧ Cb (wr.alloc (.cells ZC.toArray 73)) g12 73 ((rdW d1 8).map cellsOf).flatten ∧ Ext w (wr.alloc (.cells ZC.toArray 73))) := by
                refine ⟨dk.ext ((Ext.refl _).alloc _), ?_, ex.2.ext ((Ext.refl _).alloc _), xr.alloc _⟩
                rw [rdW_zero, ← hZC.out ()]
                exact Cb.new _ _ _
              have hS := Lib.hid ex.1
              have n12 : g12 < wr.heap.size := ex.2.lt
              have mlt := dk.mp.lt
              clear dk up ex xr
              go_upto_region 21 with fail
              refine wp_gen (fun W => DK W g r mb d ∧ Cb W wr.heap.size 73 ((rdW d 0).map cellsOf).flatten ∧ Cb W g12 73 ((rdW d1 8).map cellsOf).flatten ∧ Ext w W) K4.out ?_
              generalize wr.heap.size = g17 at *
              clear K4 wr
              rintro w5 K5
              replace K5 := Lib.hid K5
              go_wp2_with fail
              go_loopw [18] (fun v wr => ∃ k : Nat, k ≤ 8 ∧ v = .int .i64 (k : Int) ∧ DK wr g r mb d ∧ Cb wr g17 73 ((rdW d k).map cellsOf).flatten ∧ Cb wr g12 73 ((rdW d1 8).map cellsOf).flatten ∧ Ext w wr) (fun v _ => 8 - (intOf v).toNat)
              case atStart => exact ⟨0, Nat.zero_le _, rfl, K5.out.1, K5.out.2.1, K5.out.2.2.1, K5.out.2.2.2⟩
              case round =>
                clear K5
                obtain ⟨k, hk8, rfl, dk, kw, ex, xr⟩ := hrel
                by_cases hlt8 : k < 8
                · have u5 : decide ((k : Int) < 8) = true := decide_eq_true (by omega)
                  have u6 : (0 : Int) ≤ (k : Int) := by omega
                  have u7 : (k : Int) < 8 := by omega
                  have hk1 : IntKind.i64.wrap ((k : Int) + 1) = (k : Int) + 1 := IntWalk.i64_in _ (by omega)
                  have RE := dread_calls (i := (k : Int)) dk
                  have L_y := read_len21 dk.ok (k : Int)
                  have RS := rdW_step (d := d) hlt8
                  rw [(UP_d.out.read hlt8).2] at RE
                  replace RE := Lib.hid RE
                  have W64 := Lib.hid (rdW_64 dk.ok k)
                  obtain ⟨ys, hys⟩ : ∃ ys, ys = d.read (k : Int) := ⟨_, rfl⟩
                  rw [← hys] at RE L_y RS
                  clear hys
                  have S_y : (cellsOf ys).toArray.size = 64 := by simp [cellsOf_len, L_y]
                  have O_y := one_cells (one_mem ys)
                  have gk : g17 ≠ g ∧ g17 ≠ r ∧ g17 ≠ mb := ⟨cb_differ kw dk.cb (by decide), cb_differ kw dk.row (by decide), fun e => by
                    obtain ⟨es, c, q⟩ := dk.mp.obj
                    unfold Cb at kw
                    rw [e, q] at kw
                    cases kw⟩
                  have B8 : Hid (∀ s, Ext wr s → DK s g r mb d ∧ Cb s g17 73 ((rdW d k).map cellsOf).flatten ∧ Cb s g12 73 ((rdW d1 8).map cellsOf).flatten ∧ Ext w s) := fun s e => ⟨dk.ext e, kw.ext e, (ex.ext e), xr.trans e⟩
                  replace RS := Lib.hid RS
                  clear dk kw ex xr
                  go_wp2_with fail
                  refine RE.out.mono ?_
                  rintro e w8 ⟨rfl, x8⟩
                  have K8 : Hid (Cb ((w8.alloc (.cells ZL.toArray 58)).setRow w8.heap.size (cellsOf ys).toArray) w8.heap.size 58 (cellsOf ys) ∧ Ext wr ((w8.alloc (.cells ZL.toArray 58)).setRow w8.heap.size (cellsOf ys).toArray)) := ⟨(Cb.new w8 _ ZL).set, x8.trans (Ext.newRow _ _ _)⟩
                  clear RE x8
                  go_upto_region 25 with (refine wpList_store_row rfl 58 _ _ rfl w8.heap.size (cellsOf ys).toArray rfl rfl 58 ZL.toArray (heap_alloc_new _ _) (by rw [S_y]; rfl) (by rw [S_y, S_ZL]) O_y ?_; simp only [Act.put])
                  refine wp_gen (fun W => Cb W w8.heap.size 58 (cellsOf ys) ∧ Ext wr W) K8.out ?_
                  generalize w8.heap.size = g11 at *
                  clear K8 w8
                  rintro w9 ⟨k9, x9⟩
                  obtain ⟨dk9, kw9, ex9, xw9⟩ := B8.out w9 x9
                  obtain ⟨p1, p2⟩ := put_rows (k := k) kw9 W64.out (by rw [rdW_len]; exact hlt8) L_y
                  rw [← RS.out] at p1
                  have e9 := grown_setCells (w := w9) (g := g17) (o := k * 64) (vs := cellsOf ys)
                  have F9 : Hid (DK (w9.setCells g17 (k * 64) (cellsOf ys)) g r mb d ∧ Cb (w9.setCells g17 (k * 64) (cellsOf ys)) g17 73 ((rdW d (k + 1)).map cellsOf).flatten ∧ Cb (w9.setCells g17 (k * 64) (cellsOf ys)) g12 73 ((rdW d1 8).map cellsOf).flatten ∧ Ext w (w9.setCells g17 (k * 64) (cellsOf ys))) :=
                    ⟨dk9.stay (e9.block _ dk9.cb.lt (fun z => gk.1 (Option.some.inj z).symm)) (e9.block _ dk9.row.lt (fun z => gk.2.1 (Option.some.inj z).symm)) (e9.block _ dk9.mp.lt (fun z => gk.2.2 (Option.some.inj z).symm)), p1, ((e9.block _ ex9.lt (fun z => Nat.ne_of_lt n12 (Option.some.inj z))).trans ex9), Two.ext (g := g17) (g' := g17) xw9 ⟨e9.os, e9.tape, e9.output, e9.size, fun i hi q _ => e9.block i hi (fun z => q (Option.some.inj z))⟩ wg17 wg17⟩
                  clear B8 dk9 kw9 ex9 xw9 p1 e9 x9 W64 RS
                  replace p2 := Lib.hid p2
                  go_wp2_with (first
                    | ((with_reducible refine wpList_load_rowW (o := ⟨some 114, _, _, _, _, _⟩) ?_ 58 _ rfl g11 ?_ 58 (cellsOf ys).toArray (0, 0) _ ?_ Try.underlying58 ?_ ?_ ?_); (· rfl); (· rfl); (· exact k9); (· rfl); (· rw [S_y]; rfl); simp only [Act.put, List.setIfInBounds_toArray, List.set_cons_zero, List.set_cons_succ])
                    | ((with_reducible refine wpList_store_mid (op := ⟨none, .store 58 (.tmp 115) (.tmp 114), _, _, _, _⟩) ?_ 58 _ _ rfl g17 (k * 64) (cellsOf ys).toArray ?_ ?_ ?_ ?_ ?_ ?_); (· rfl); (· rfl); (· rfl); (· rw [S_y]; exact p2.out); (· rw [S_y]; rfl); (· exact O_y); simp only [Act.put, List.setIfInBounds_toArray, List.set_cons_zero, List.set_cons_succ]))
                  go_round
                  case rel => exact ⟨k + 1, by omega, by go_num, F9.out.1, F9.out.2.1, F9.out.2.2.1, F9.out.2.2.2⟩
                  case measure => simp [intOf]; omega
                · obtain rfl : k = 8 := by omega
                  rw [show ((8 : Nat) : Int) = 8 from rfl]
                  have CR := Lib.hid (dcrash_calls dk hk)
                  have ST : Hid (∀ k : Nat, k < 8 → ((d.crash kept).read (k : Int) = d1.read (k : Int) ∨ (d.crash kept).read (k : Int) = d.read (k : Int)) ∧ (kept = 18446744073709551615 → (d.crash kept).read (k : Int) = d.read (k : Int)) ∧ (kept = 0 → (d.crash kept).read (k : Int) = d1.read (k : Int))) := fun k hk8 => sure_tests UP_d1.out N1.out UP_d.out hS.out hk8
                  have UP_c := Lib.hid (crash_up UP_d.out.1 kept)
                  have CPN := Lib.hid (crash_pend d kept)
                  have W12 : Hid (∀ k : Nat, k < 8 → (rdW d1 8).getD k [] = d1.read (k : Int)) := fun k hk8 => by rw [rdW_at hk8, if_pos hk8]
                  have W17 : Hid (∀ k : Nat, k < 8 → (rdW d 8).getD k [] = d.read (k : Int)) := fun k hk8 => by rw [rdW_at hk8, if_pos hk8]
                  have S12 : Hid (∀ s ∈ rdW d1 8, s.length = 64) := fun s hs => by
                    obtain ⟨j, hj, rfl⟩ := List.mem_map.1 hs
                    have hj := List.mem_range.1 hj
                    rw [if_pos hj, (UP_d1.out.read hj).1, N1.out]
                    show (d1.S.getD j []).length = 64
                    rw [← hS.out, List.getD_eq_getElem?_getD, List.getElem?_eq_getElem (by rw [UP_d.out.1]; exact hj), Option.getD_some]
                    exact dk.ok.sl _ (List.getElem_mem _)
                  have S17 := Lib.hid (rdW_64 dk.ok 8)
                  have n1 : g12 ≠ g ∧ g12 ≠ r := ⟨cb_differ ex dk.cb (by decide), cb_differ ex dk.row (by decide)⟩
                  have n2 : g17 ≠ g ∧ g17 ≠ r := ⟨cb_differ kw dk.cb (by decide), cb_differ kw dk.row (by decide)⟩
                  replace kw := Lib.hid kw
                  replace ex := Lib.hid ex
                  replace xr := Lib.hid xr
                  clear dk OB N1 hZC hal1
                  obtain ⟨dc, hdc⟩ : ∃ dc, dc = d.crash kept := ⟨_, rfl⟩
                  rw [← hdc] at CR ST UP_c CPN
                  clear hdc
                  go_wp2_with fail
                  refine CR.out.mono ?_
                  rintro e w6 ⟨rfl, mbC, k6, _, t6⟩
                  have B6 : Hid (∀ s, Ext w6 s → DK s g r mbC dc ∧ Cb s g12 73 ((rdW d1 8).map cellsOf).flatten ∧ Cb s g17 73 ((rdW d 8).map cellsOf).flatten ∧ Ext w s) := fun s e => ⟨k6.ext e, Cb.ext (t6.block ex.out n1.1 n1.2) e, Cb.ext (t6.block kw.out n2.1 n2.2) e, (t6.ext xr.out wg wrr).trans e⟩
                  clear CR k6 t6 xr kw ex UP_d1 UP_d hS
                  go_wp2_with fail
                  go_loopw [21] (fun v wr => ∃ k : Nat, k ≤ 8 ∧ v = .int .i64 (k : Int) ∧ Ext w6 wr) (fun v _ => 8 - (intOf v).toNat)
                  case atStart => exact ⟨0, Nat.zero_le _, rfl, Ext.refl _⟩
                  case round =>
                    obtain ⟨k, hk8, rfl, xk⟩ := hrel
                    obtain ⟨dk, ka, kb, xw⟩ := B6.out _ xk
                    by_cases hlt8 : k < 8
                    · have u5 : decide ((k : Int) < 8) = true := decide_eq_true (by omega)
                      have u6 : (0 : Int) ≤ (k : Int) := by omega
                      have u7 : (k : Int) < 8 := by omega
                      have hk1 : IntKind.i64.wrap ((k : Int) + 1) = (k : Int) + 1 := IntWalk.i64_in _ (by omega)
                      have RE := dread_calls (i := (k : Int)) dk
                      have L_x := read_len21 dk.ok (k : Int)
                      rw [(UP_c.out.read hlt8).2] at RE
                      obtain ⟨s1, s2, s3⟩ := ST.out k hlt8
                      have YA := Lib.hid (fun s (e : Ext wr s) => row_at (B6.out s (xk.trans e)).2.1 S12.out (k := k) (by rw [rdW_len]; exact hlt8))
                      have YB := Lib.hid (fun s (e : Ext wr s) => row_at (B6.out s (xk.trans e)).2.2.1 S17.out (k := k) (by rw [rdW_len]; exact hlt8))
                      have L_a : ((rdW d1 8).getD k []).length = 64 := by rw [List.getD_eq_getElem?_getD, List.getElem?_eq_getElem (by rw [rdW_len]; exact hlt8), Option.getD_some]; exact S12.out _ (List.getElem_mem _)
                      have L_b : ((rdW d 8).getD k []).length = 64 := by rw [List.getD_eq_getElem?_getD, List.getElem?_eq_getElem (by rw [rdW_len]; exact hlt8), Option.getD_some]; exact S17.out _ (List.getElem_mem _)
                      rw [← W12.out k hlt8] at s1 s3
                      rw [← W17.out k hlt8] at s1 s2
                      replace RE := Lib.hid RE
                      obtain ⟨xs, hxs⟩ : ∃ xs, xs = dc.read (k : Int) := ⟨_, rfl⟩
                      obtain ⟨ya, hya⟩ : ∃ ya, ya = (rdW d1 8).getD k [] := ⟨_, rfl⟩
                      obtain ⟨yb, hyb⟩ : ∃ yb, yb = (rdW d 8).getD k [] := ⟨_, rfl⟩
                      rw [← hxs] at RE L_x s1 s2 s3
                      rw [← hya] at YA L_a s1 s3
                      rw [← hyb] at YB L_b s1 s2
                      clear hxs hya hyb dk ka kb xw
                      have C_a : (cellsOf ya).length = 64 := by rw [cellsOf_len, L_a]
                      have C_b : (cellsOf yb).length = 64 := by rw [cellsOf_len, L_b]
                      have S_x : (cellsOf xs).toArray.size = 64 := by simp [cellsOf_len, L_x]
                      have O_x := one_cells (one_mem xs)
                      obtain ⟨e1, he1⟩ : ∃ q, q = decide (xs = ya) := ⟨_, rfl⟩
                      obtain ⟨e2, he2⟩ : ∃ q, q = decide (xs = yb) := ⟨_, rfl⟩
                      obtain ⟨o1, ho1⟩ : ∃ q, q = decide (kept = 18446744073709551615) := ⟨_, rfl⟩
                      obtain ⟨o0, ho0⟩ : ∃ q, q = decide (kept = 0) := ⟨_, rfl⟩
                      have T1 : e1 = true ∨ e2 = true := s1.imp (fun q => he1.trans (decide_eq_true q)) (fun q => he2.trans (decide_eq_true q))
                      have T2 : o1 = true → e2 = true := fun q => he2.trans (decide_eq_true (s2 (of_decide_eq_true (ho1.symm.trans q))))
                      have T3 : o0 = true → e1 = true := fun q => he1.trans (decide_eq_true (s3 (of_decide_eq_true (ho0.symm.trans q))))
                      have T4 : ¬ (o1 = true ∧ o0 = true) := fun q => by
                        have a := of_decide_eq_true (ho1.symm.trans q.1)
                        have b := of_decide_eq_true (ho0.symm.trans q.2)
                        omega
                      have K1 : ((kept : Int) == 18446744073709551615) = o1 := by
                        rw [ho1]
                        by_cases q : kept = 18446744073709551615
                        · rw [q, decide_eq_true rfl]; rfl
                        · rw [decide_eq_false q]; exact beq_eq_false_iff_ne.2 (by omega)
                      have K0 : ((kept : Int) == 0) = o0 := by
                        rw [ho0]
                        by_cases q : kept = 0
                        · rw [q, decide_eq_true rfl]; rfl
                        · rw [decide_eq_false q]; exact beq_eq_false_iff_ne.2 (by omega)
                      have Q1 : Hid ((!decide (xs = ya)) = !e1) := by unfold Hid; rw [he1]
                      have Q2 : Hid ((!decide (xs = yb)) = !e2) := by unfold Hid; rw [he2]
                      clear s1 s2 s3 he1 he2 ho1 ho0
                      replace xk := Lib.hid xk
                      go_wp2_with fail
                      refine RE.out.mono ?_
                      rintro e w8 ⟨rfl, x8⟩
                      have K8 : Hid (Cb ((w8.alloc (.cells ZL.toArray 58)).setRow w8.heap.size (cellsOf xs).toArray) w8.heap.size 58 (cellsOf xs) ∧ Ext wr ((w8.alloc (.cells ZL.toArray 58)).setRow w8.heap.size (cellsOf xs).toArray)) := ⟨(Cb.new w8 _ ZL).set, x8.trans (Ext.newRow _ _ _)⟩
                      clear RE x8
                      go_upto_region 31 with (refine wpList_store_row rfl 58 _ _ rfl w8.heap.size (cellsOf xs).toArray rfl rfl 58 ZL.toArray (heap_alloc_new _ _) (by rw [S_x]; rfl) (by rw [S_x, S_ZL]) O_x ?_; simp only [Act.put])
                      refine wp_gen (fun W => Cb W w8.heap.size 58 (cellsOf xs) ∧ Ext wr W) K8.out ?_
                      generalize w8.heap.size = g22 at *
                      clear K8 w8
                      rintro w9 ⟨k9, x9⟩
                      have F9 : Hid (∀ s, Ext w9 s → Cb s g22 58 (cellsOf xs) ∧ (∀ j v, (cellsOf ya)[j]? = some v → s.cell? ⟨g12, k * 64 + j, none⟩ = some v) ∧ (∀ j v, (cellsOf yb)[j]? = some v → s.cell? ⟨g17, k * 64 + j, none⟩ = some v)) := fun s e => ⟨k9.ext e, YA.out s (x9.trans e), YB.out s (x9.trans e)⟩
                      have X9 : Hid (Ext w6 w9) := xk.out.trans x9
                      clear k9 x9 YA YB xk
                      go_cut [166] from 129 to 166 (fun s166 wx => s166 = .bool false ∧ Ext w6 wx)
                      case first =>
                        cases e1 <;> cases e2 <;> cases o1 <;> cases o0
                        · exact absurd T1 (by simp)
                        · exact absurd T1 (by simp)
                        · exact absurd T1 (by simp)
                        · exact absurd T1 (by simp)
                        · skip
                          refine wp_region_seq (R := Ext) Ext.refl (fun _ _ _ => Ext.trans) [0, 1, 2, 3, 4, 5, 6, 7, 8, 9, 10, 11, 12, 13, 14, 15, 16, 17, 18, 19, 20, 21, 22, 23, 24, 25, 26, 27, 28, 29, 30, 31, 32, 33, 34, 35, 36, 37] [] [(0, 130, 16777216), (1, 131, 1361129467683753853853498429727072845824), (2, 132, 2722258935367507707706996859454145691648), (4, 133, 5444517870735015415413993718908299771904), (4, 134, 5444517870735015415413993718908295577600), (20, 135, 27222589353675077077069968594541456924672), (36, 136, 49000660836615138738725943470174622449664), (76, 137, 103445839543965292892865880659257536282624), (132, 138, 179669089734255508708661792723973615648768), (256, 139, 348449143727040986586495598010130656919552), (256, 140, 348449143727040986586495598010130652725248), (1280, 141, 1742245718635204932932477990050653242916864), (2304, 142, 3136042293543368879278460382091175836778496), (4864, 143, 6620533730813778745143416362192482322087936), (8452, 144, 11504266260863087572769768728053219692904448), (16388, 145, 22306189716401358156951132266367269797363712), (33024, 146, 44601490397061246283071436545296723011960832), (65536, 147, 89202980794122492566142873090593446023921672), (196608, 148, 267608942382367477698428619271780338071764992), (327680, 149, 446014903970612462830714365452967230119608320), (524288, 150, 713623846352979940529142984724747568199761920), (524288, 151, 713623846352979940529142984724747568195567616), (2621440, 152, 3568119231764899702645714923623737840957128704), (4718592, 153, 6422614617176819464762286862522728113722359808), (9961472, 154, 13558853080706618870053716709770203795636092928), (17367040, 155, 23638789910442460530027861369007263196339240960), (33619968, 156, 45761129147384838686431293895474437810271813632), (67633152, 157, 91343852333181432387730302044767688728495783936), (134217728, 158, 182687704666362864775460604089535377456991567880), (402653184, 159, 548063113999088594326381812268606132370974703616), (671088640, 160, 913438523331814323877303020447676887284957839360), (1073741824, 161, 1461501637330902918203684832716283019655940931584), (1073741824, 162, 1461501637330902918203684832716283019655936737280), (5368709120, 163, 7307508186654514591018424163581415098279662723072), (9663676416, 164, 13153514735978126263833163494446547176903392886784), (20401094656, 165, 27768531109287155445870011821609377373462718316544), (35567697920, 166, 48412241736586159165497060083726875026102765486080), (68853694464, 167, 93718792493844149629811289897931648635436674318336)] (by kernel_rfl) (by kernel_rfl) (by kernel_rfl) rfl (by kernel_rfl) (by kernel_rfl) (fun _ _ d _ _ h => by cases d <;> exact h) ?_
                          (first | (refine seq_read (fun _ => True) (fun _ _ => trivial) _ (v := ?_) rfl rfl (by rfl) ?_ ?_; rotate_left; (· intro w' hF; go_simp; (try with_reducible rfl)); simp only [Act.put, List.setIfInBounds_toArray, List.set_cons_zero, List.set_cons_succ]) | (refine seq_skip _ rfl rfl (by rfl) ?_; simp only [Act.put, List.setIfInBounds_toArray, List.set_cons_zero, List.set_cons_succ]))
                          (first | (refine seq_read (fun _ => True) (fun _ _ => trivial) _ (v := ?_) rfl rfl (by rfl) ?_ ?_; rotate_left; (· intro w' hF; go_simp; (try with_reducible rfl)); simp only [Act.put, List.setIfInBounds_toArray, List.set_cons_zero, List.set_cons_succ]) | (refine seq_skip _ rfl rfl (by rfl) ?_; simp only [Act.put, List.setIfInBounds_toArray, List.set_cons_zero, List.set_cons_succ]))
                          (first | (refine seq_read (fun _ => True) (fun _ _ => trivial) _ (v := ?_) rfl rfl (by rfl) ?_ ?_; rotate_left; (· intro w' hF; go_simp; (try with_reducible rfl)); simp only [Act.put, List.setIfInBounds_toArray, List.set_cons_zero, List.set_cons_succ]) | (refine seq_skip _ rfl rfl (by rfl) ?_; simp only [Act.put, List.setIfInBounds_toArray, List.set_cons_zero, List.set_cons_succ]))
                          refine seq_read (fun w' => w'.heap[g22]? = some (.cells (cellsOf xs).toArray 58 (0, 0))) (fun w' e => (F9.out w' (Ext.trans (Ext.refl _).drew e)).1) _ (v := .agg (cellsOf xs).toArray) rfl rfl (by rfl) (fun w' hF => exec_load_row rfl rfl hF rfl rfl (by rw [S_x]; rfl)) ?_
                          simp only [Act.put, List.setIfInBounds_toArray, List.set_cons_zero, List.set_cons_succ]
                          (first | (refine seq_read (fun _ => True) (fun _ _ => trivial) _ (v := ?_) rfl rfl (by rfl) ?_ ?_; rotate_left; (· intro w' hF; go_simp; (try with_reducible rfl)); simp only [Act.put, List.setIfInBounds_toArray, List.set_cons_zero, List.set_cons_succ]) | (refine seq_skip _ rfl rfl (by rfl) ?_; simp only [Act.put, List.setIfInBounds_toArray, List.set_cons_zero, List.set_cons_succ]))
                          (first | (refine seq_read (fun _ => True) (fun _ _ => trivial) _ (v := ?_) rfl rfl (by rfl) ?_ ?_; rotate_left; (· intro w' hF; go_simp; (try with_reducible rfl)); simp only [Act.put, List.setIfInBounds_toArray, List.set_cons_zero, List.set_cons_succ]) | (refine seq_skip _ rfl rfl (by rfl) ?_; simp only [Act.put, List.setIfInBounds_toArray, List.set_cons_zero, List.set_cons_succ]))
                          refine seq_read (fun w' => ∀ q_ v, (cellsOf ya)[q_]? = some v → w'.cell? ⟨g12, (k * 64) + q_, none⟩ = some v) (fun w' e => (F9.out w' (Ext.trans (Ext.refl _).drew e)).2.1) _ (v := .agg (cellsOf ya).toArray) rfl rfl (by rfl) (fun w' hF => exec_load_mid rfl rfl hF rfl rfl (by rw [C_a]; rfl)) ?_
                          simp only [Act.put, List.setIfInBounds_toArray, List.set_cons_zero, List.set_cons_succ]
                          refine seq_read (fun _ => True) (fun _ _ => trivial) _ (v := .bool true) rfl rfl (by rfl) (fun w' _ => exec_neq_sector (xs := xs) (ys := ya) Q1.out L_x L_a rfl rfl rfl) ?_
                          simp only [Act.put, List.setIfInBounds_toArray, List.set_cons_zero, List.set_cons_succ]
                          (first | (refine seq_read (fun _ => True) (fun _ _ => trivial) _ (v := ?_) rfl rfl (by rfl) ?_ ?_; rotate_left; (· intro w' hF; go_simp; (try with_reducible rfl)); simp only [Act.put, List.setIfInBounds_toArray, List.set_cons_zero, List.set_cons_succ]) | (refine seq_skip _ rfl rfl (by rfl) ?_; simp only [Act.put, List.setIfInBounds_toArray, List.set_cons_zero, List.set_cons_succ]))
                          refine seq_read (fun w' => w'.heap[g22]? = some (.cells (cellsOf xs).toArray 58 (0, 0))) (fun w' e => (F9.out w' (Ext.trans (Ext.refl _).drew e)).1) _ (v := .agg (cellsOf xs).toArray) rfl rfl (by rfl) (fun w' hF => exec_load_row rfl rfl hF rfl rfl (by rw [S_x]; rfl)) ?_
                          simp only [Act.put, List.setIfInBounds_toArray, List.set_cons_zero, List.set_cons_succ]
                          (first | (refine seq_read (fun _ => True) (fun _ _ => trivial) _ (v := ?_) rfl rfl (by rfl) ?_ ?_; rotate_left; (· intro w' hF; go_simp; (try with_reducible rfl)); simp only [Act.put, List.setIfInBounds_toArray, List.set_cons_zero, List.set_cons_succ]) | (refine seq_skip _ rfl rfl (by rfl) ?_; simp only [Act.put, List.setIfInBounds_toArray, List.set_cons_zero, List.set_cons_succ]))
                          (first | (refine seq_read (fun _ => True) (fun _ _ => trivial) _ (v := ?_) rfl rfl (by rfl) ?_ ?_; rotate_left; (· intro w' hF; go_simp; (try with_reducible rfl)); simp only [Act.put, List.setIfInBounds_toArray, List.set_cons_zero, List.set_cons_succ]) | (refine seq_skip _ rfl rfl (by rfl) ?_; simp only [Act.put, List.setIfInBounds_toArray, List.set_cons_zero, List.set_cons_succ]))
                          refine seq_read (fun w' => ∀ q_ v, (cellsOf yb)[q_]? = some v → w'.cell? ⟨g17, (k * 64) + q_, none⟩ = some v) (fun w' e => (F9.out w' (Ext.trans (Ext.refl _).drew e)).2.2) _ (v := .agg (cellsOf yb).toArray) rfl rfl (by rfl) (fun w' hF => exec_load_mid rfl rfl hF rfl rfl (by rw [C_b]; rfl)) ?_
                          simp only [Act.put, List.setIfInBounds_toArray, List.set_cons_zero, List.set_cons_succ]
                          refine seq_read (fun _ => True) (fun _ _ => trivial) _ (v := .bool false) rfl rfl (by rfl) (fun w' _ => exec_neq_sector (xs := xs) (ys := yb) Q2.out L_x L_b rfl rfl rfl) ?_
                          simp only [Act.put, List.setIfInBounds_toArray, List.set_cons_zero, List.set_cons_succ]
                          (first | (refine seq_read (fun _ => True) (fun _ _ => trivial) _ (v := ?_) rfl rfl (by rfl) ?_ ?_; rotate_left; (· intro w' hF; go_simp; (try with_reducible rfl)); simp only [Act.put, List.setIfInBounds_toArray, List.set_cons_zero, List.set_cons_succ]) | (refine seq_skip _ rfl rfl (by rfl) ?_; simp only [Act.put, List.setIfInBounds_toArray, List.set_cons_zero, List.set_cons_succ]))
                          (first | (refine seq_read (fun _ => True) (fun _ _ => trivial) _ (v := ?_) rfl rfl (by rfl) ?_ ?_; rotate_left; (· intro w' hF; go_simp; (try with_reducible rfl)); simp only [Act.put, List.setIfInBounds_toArray, List.set_cons_zero, List.set_cons_succ]) | (refine seq_skip _ rfl rfl (by rfl) ?_; simp only [Act.put, List.setIfInBounds_toArray, List.set_cons_zero, List.set_cons_succ]))
                          (first | (refine seq_read (fun _ => True) (fun _ _ => trivial) _ (v := ?_) rfl rfl (by rfl) ?_ ?_; rotate_left; (· intro w' hF; go_simp; (try with_reducible rfl)); simp only [Act.put, List.setIfInBounds_toArray, List.set_cons_zero, List.set_cons_succ]) | (refine seq_skip _ rfl rfl (by rfl) ?_; simp only [Act.put, List.setIfInBounds_toArray, List.set_cons_zero, List.set_cons_succ]))
                          (first | (refine seq_read (fun _ => True) (fun _ _ => trivial) _ (v := ?_) rfl rfl (by rfl) ?_ ?_; rotate_left; (· intro w' hF; go_simp; (try with_reducible rfl)); simp only [Act.put, List.setIfInBounds_toArray, List.set_cons_zero, List.set_cons_succ]) | (refine seq_skip _ rfl rfl (by rfl) ?_; simp only [Act.put, List.setIfInBounds_toArray, List.set_cons_zero, List.set_cons_succ]))
                          (first | (refine seq_read (fun _ => True) (fun _ _ => trivial) _ (v := ?_) rfl rfl (by rfl) ?_ ?_; rotate_left; (· intro w' hF; go_simp; (try with_reducible rfl)); simp only [Act.put, List.setIfInBounds_toArray, List.set_cons_zero, List.set_cons_succ]) | (refine seq_skip _ rfl rfl (by rfl) ?_; simp only [Act.put, List.setIfInBounds_toArray, List.set_cons_zero, List.set_cons_succ]))
                          (first | (refine seq_read (fun _ => True) (fun _ _ => trivial) _ (v := ?_) rfl rfl (by rfl) ?_ ?_; rotate_left; (· intro w' hF; go_simp; (try with_reducible rfl)); simp only [Act.put, List.setIfInBounds_toArray, List.set_cons_zero, List.set_cons_succ]) | (refine seq_skip _ rfl rfl (by rfl) ?_; simp only [Act.put, List.setIfInBounds_toArray, List.set_cons_zero, List.set_cons_succ]))
                          (first | (refine seq_read (fun _ => True) (fun _ _ => trivial) _ (v := ?_) rfl rfl (by rfl) ?_ ?_; rotate_left; (· intro w' hF; go_simp; (try with_reducible rfl)); simp only [Act.put, List.setIfInBounds_toArray, List.set_cons_zero, List.set_cons_succ]) | (refine seq_skip _ rfl rfl (by rfl) ?_; simp only [Act.put, List.setIfInBounds_toArray, List.set_cons_zero, List.set_cons_succ]))
                          (first | (refine seq_read (fun _ => True) (fun _ _ => trivial) _ (v := ?_) rfl rfl (by rfl) ?_ ?_; rotate_left; (· intro w' hF; go_simp; (try with_reducible rfl)); simp only [Act.put, List.setIfInBounds_toArray, List.set_cons_zero, List.set_cons_succ]) | (refine seq_skip _ rfl rfl (by rfl) ?_; simp only [Act.put, List.setIfInBounds_toArray, List.set_cons_zero, List.set_cons_succ]))
                          (first | (refine seq_read (fun _ => True) (fun _ _ => trivial) _ (v := ?_) rfl rfl (by rfl) ?_ ?_; rotate_left; (· intro w' hF; go_simp; (try with_reducible rfl)); simp only [Act.put, List.setIfInBounds_toArray, List.set_cons_zero, List.set_cons_succ]) | (refine seq_skip _ rfl rfl (by rfl) ?_; simp only [Act.put, List.setIfInBounds_toArray, List.set_cons_zero, List.set_cons_succ]))
                          (first | (refine seq_read (fun _ => True) (fun _ _ => trivial) _ (v := ?_) rfl rfl (by rfl) ?_ ?_; rotate_left; (· intro w' hF; go_simp; (try with_reducible rfl)); simp only [Act.put, List.setIfInBounds_toArray, List.set_cons_zero, List.set_cons_succ]) | (refine seq_skip _ rfl rfl (by rfl) ?_; simp only [Act.put, List.setIfInBounds_toArray, List.set_cons_zero, List.set_cons_succ]))
                          (first | (refine seq_read (fun _ => True) (fun _ _ => trivial) _ (v := ?_) rfl rfl (by rfl) ?_ ?_; rotate_left; (· intro w' hF; go_simp; (try with_reducible rfl)); simp only [Act.put, List.setIfInBounds_toArray, List.set_cons_zero, List.set_cons_succ]) | (refine seq_skip _ rfl rfl (by rfl) ?_; simp only [Act.put, List.setIfInBounds_toArray, List.set_cons_zero, List.set_cons_succ]))
                          (first | (refine seq_read (fun _ => True) (fun _ _ => trivial) _ (v := ?_) rfl rfl (by rfl) ?_ ?_; rotate_left; (· intro w' hF; go_simp; (try with_reducible rfl)); simp only [Act.put, List.setIfInBounds_toArray, List.set_cons_zero, List.set_cons_succ]) | (refine seq_skip _ rfl rfl (by rfl) ?_; simp only [Act.put, List.setIfInBounds_toArray, List.set_cons_zero, List.set_cons_succ]))
                          (first | (refine seq_read (fun _ => True) (fun _ _ => trivial) _ (v := ?_) rfl rfl (by rfl) ?_ ?_; rotate_left; (· intro w' hF; go_simp; (try with_reducible rfl)); simp only [Act.put, List.setIfInBounds_toArray, List.set_cons_zero, List.set_cons_succ]) | (refine seq_skip _ rfl rfl (by rfl) ?_; simp only [Act.put, List.setIfInBounds_toArray, List.set_cons_zero, List.set_cons_succ]))
                          (first | (refine seq_read (fun _ => True) (fun _ _ => trivial) _ (v := ?_) rfl rfl (by rfl) ?_ ?_; rotate_left; (· intro w' hF; go_simp; (try with_reducible rfl)); simp only [Act.put, List.setIfInBounds_toArray, List.set_cons_zero, List.set_cons_succ]) | (refine seq_skip _ rfl rfl (by rfl) ?_; simp only [Act.put, List.setIfInBounds_toArray, List.set_cons_zero, List.set_cons_succ]))
                          (first | (refine seq_read (fun _ => True) (fun _ _ => trivial) _ (v := ?_) rfl rfl (by rfl) ?_ ?_; rotate_left; (· intro w' hF; go_simp; (try with_reducible rfl)); simp only [Act.put, List.setIfInBounds_toArray, List.set_cons_zero, List.set_cons_succ]) | (refine seq_skip _ rfl rfl (by rfl) ?_; simp only [Act.put, List.setIfInBounds_toArray, List.set_cons_zero, List.set_cons_succ]))
                          (first | (refine seq_read (fun _ => True) (fun _ _ => trivial) _ (v := ?_) rfl rfl (by rfl) ?_ ?_; rotate_left; (· intro w' hF; go_simp; (try with_reducible rfl)); simp only [Act.put, List.setIfInBounds_toArray, List.set_cons_zero, List.set_cons_succ]) | (refine seq_skip _ rfl rfl (by rfl) ?_; simp only [Act.put, List.setIfInBounds_toArray, List.set_cons_zero, List.set_cons_succ]))
                          (first | (refine seq_read (fun _ => True) (fun _ _ => trivial) _ (v := ?_) rfl rfl (by rfl) ?_ ?_; rotate_left; (· intro w' hF; go_simp; (try with_reducible rfl)); simp only [Act.put, List.setIfInBounds_toArray, List.set_cons_zero, List.set_cons_succ]) | (refine seq_skip _ rfl rfl (by rfl) ?_; simp only [Act.put, List.setIfInBounds_toArray, List.set_cons_zero, List.set_cons_succ]))
                          (first | (refine seq_read (fun _ => True) (fun _ _ => trivial) _ (v := ?_) rfl rfl (by rfl) ?_ ?_; rotate_left; (· intro w' hF; go_simp; (try with_reducible rfl)); simp only [Act.put, List.setIfInBounds_toArray, List.set_cons_zero, List.set_cons_succ]) | (refine seq_skip _ rfl rfl (by rfl) ?_; simp only [Act.put, List.setIfInBounds_toArray, List.set_cons_zero, List.set_cons_succ]))
                          (first | (refine seq_read (fun _ => True) (fun _ _ => trivial) _ (v := ?_) rfl rfl (by rfl) ?_ ?_; rotate_left; (· intro w' hF; go_simp; (try with_reducible rfl)); simp only [Act.put, List.setIfInBounds_toArray, List.set_cons_zero, List.set_cons_succ]) | (refine seq_skip _ rfl rfl (by rfl) ?_; simp only [Act.put, List.setIfInBounds_toArray, List.set_cons_zero, List.set_cons_succ]))
                          (first | (refine seq_read (fun _ => True) (fun _ _ => trivial) _ (v := ?_) rfl rfl (by rfl) ?_ ?_; rotate_left; (· intro w' hF; go_simp; (try with_reducible rfl)); simp only [Act.put, List.setIfInBounds_toArray, List.set_cons_zero, List.set_cons_succ]) | (refine seq_skip _ rfl rfl (by rfl) ?_; simp only [Act.put, List.setIfInBounds_toArray, List.set_cons_zero, List.set_cons_succ]))
                          (first | (refine seq_read (fun _ => True) (fun _ _ => trivial) _ (v := ?_) rfl rfl (by rfl) ?_ ?_; rotate_left; (· intro w' hF; go_simp; (try with_reducible rfl)); simp only [Act.put, List.setIfInBounds_toArray, List.set_cons_zero, List.set_cons_succ]) | (refine seq_skip _ rfl rfl (by rfl) ?_; simp only [Act.put, List.setIfInBounds_toArray, List.set_cons_zero, List.set_cons_succ]))
                          (first | (refine seq_read (fun _ => True) (fun _ _ => trivial) _ (v := ?_) rfl rfl (by rfl) ?_ ?_; rotate_left; (· intro w' hF; go_simp; (try with_reducible rfl)); simp only [Act.put, List.setIfInBounds_toArray, List.set_cons_zero, List.set_cons_succ]) | (refine seq_skip _ rfl rfl (by rfl) ?_; simp only [Act.put, List.setIfInBounds_toArray, List.set_cons_zero, List.set_cons_succ]))
                          (first | (refine seq_read (fun _ => True) (fun _ _ => trivial) _ (v := ?_) rfl rfl (by rfl) ?_ ?_; rotate_left; (· intro w' hF; go_simp; (try with_reducible rfl)); simp only [Act.put, List.setIfInBounds_toArray, List.set_cons_zero, List.set_cons_succ]) | (refine seq_skip _ rfl rfl (by rfl) ?_; simp only [Act.put, List.setIfInBounds_toArray, List.set_cons_zero, List.set_cons_succ]))
                          (first | (refine seq_read (fun _ => True) (fun _ _ => trivial) _ (v := ?_) rfl rfl (by rfl) ?_ ?_; rotate_left; (· intro w' hF; go_simp; (try with_reducible rfl)); simp only [Act.put, List.setIfInBounds_toArray, List.set_cons_zero, List.set_cons_succ]) | (refine seq_skip _ rfl rfl (by rfl) ?_; simp only [Act.put, List.setIfInBounds_toArray, List.set_cons_zero, List.set_cons_succ]))
                          refine seq_done ?_
                          have X2 : Hid (Ext w6 w9.drew) := X9.out.drew
                          go_wp2_with fail
                          go_meet
                          exact ⟨rfl, X2.out⟩
                        · exact absurd (T3 rfl) (by simp)
                        · skip
                          refine wp_region_seq (R := Ext) Ext.refl (fun _ _ _ => Ext.trans) [0, 1, 2, 3, 4, 5, 6, 7, 8, 9, 10, 11, 12, 13, 14, 15, 16, 17, 18, 19, 20, 21, 22, 23, 24, 25, 26, 27, 28, 29, 30, 31, 32, 33, 34, 35, 36, 37] [] [(0, 130, 16777216), (1, 131, 1361129467683753853853498429727072845824), (2, 132, 2722258935367507707706996859454145691648), (4, 133, 5444517870735015415413993718908299771904), (4, 134, 5444517870735015415413993718908295577600), (20, 135, 27222589353675077077069968594541456924672), (36, 136, 49000660836615138738725943470174622449664), (76, 137, 103445839543965292892865880659257536282624), (132, 138, 179669089734255508708661792723973615648768), (256, 139, 348449143727040986586495598010130656919552), (256, 140, 348449143727040986586495598010130652725248), (1280, 141, 1742245718635204932932477990050653242916864), (2304, 142, 3136042293543368879278460382091175836778496), (4864, 143, 6620533730813778745143416362192482322087936), (8452, 144, 11504266260863087572769768728053219692904448), (16388, 145, 22306189716401358156951132266367269797363712), (33024, 146, 44601490397061246283071436545296723011960832), (65536, 147, 89202980794122492566142873090593446023921672), (196608, 148, 267608942382367477698428619271780338071764992), (327680, 149, 446014903970612462830714365452967230119608320), (524288, 150, 713623846352979940529142984724747568199761920), (524288, 151, 713623846352979940529142984724747568195567616), (2621440, 152, 3568119231764899702645714923623737840957128704), (4718592, 153, 6422614617176819464762286862522728113722359808), (9961472, 154, 13558853080706618870053716709770203795636092928), (17367040, 155, 23638789910442460530027861369007263196339240960), (33619968, 156, 45761129147384838686431293895474437810271813632), (67633152, 157, 91343852333181432387730302044767688728495783936), (134217728, 158, 182687704666362864775460604089535377456991567880), (402653184, 159, 548063113999088594326381812268606132370974703616), (671088640, 160, 913438523331814323877303020447676887284957839360), (1073741824, 161, 1461501637330902918203684832716283019655940931584), (1073741824, 162, 1461501637330902918203684832716283019655936737280), (5368709120, 163, 7307508186654514591018424163581415098279662723072), (9663676416, 164, 13153514735978126263833163494446547176903392886784), (20401094656, 165, 27768531109287155445870011821609377373462718316544), (35567697920, 166, 48412241736586159165497060083726875026102765486080), (68853694464, 167, 93718792493844149629811289897931648635436674318336)] (by kernel_rfl) (by kernel_rfl) (by kernel_rfl) rfl (by kernel_rfl) (by kernel_rfl) (fun _ _ d _ _ h => by cases d <;> exact h) ?_
                          (first | (refine seq_read (fun _ => True) (fun _ _ => trivial) _ (v := ?_) rfl rfl (by rfl) ?_ ?_; rotate_left; (· intro w' hF; go_simp; (try with_reducible rfl)); simp only [Act.put, List.setIfInBounds_toArray, List.set_cons_zero, List.set_cons_succ]) | (refine seq_skip _ rfl rfl (by rfl) ?_; simp only [Act.put, List.setIfInBounds_toArray, List.set_cons_zero, List.set_cons_succ]))
                          (first | (refine seq_read (fun _ => True) (fun _ _ => trivial) _ (v := ?_) rfl rfl (by rfl) ?_ ?_; rotate_left; (· intro w' hF; go_simp; (try with_reducible rfl)); simp only [Act.put, List.setIfInBounds_toArray, List.set_cons_zero, List.set_cons_succ]) | (refine seq_skip _ rfl rfl (by rfl) ?_; simp only [Act.put, List.setIfInBounds_toArray, List.set_cons_zero, List.set_cons_succ]))
                          (first | (refine seq_read (fun _ => True) (fun _ _ => trivial) _ (v := ?_) rfl rfl (by rfl) ?_ ?_; rotate_left; (· intro w' hF; go_simp; (try with_reducible rfl)); simp only [Act.put, List.setIfInBounds_toArray, List.set_cons_zero, List.set_cons_succ]) | (refine seq_skip _ rfl rfl (by rfl) ?_; simp only [Act.put, List.setIfInBounds_toArray, List.set_cons_zero, List.set_cons_succ]))
                          refine seq_read (fun w' => w'.heap[g22]? = some (.cells (cellsOf xs).toArray 58 (0, 0))) (fun w' e => (F9.out w' (Ext.trans (Ext.refl _).drew e)).1) _ (v := .agg (cellsOf xs).toArray) rfl rfl (by rfl) (fun w' hF => exec_load_row rfl rfl hF rfl rfl (by rw [S_x]; rfl)) ?_
                          simp only [Act.put, List.setIfInBounds_toArray, List.set_cons_zero, List.set_cons_succ]
                          (first | (refine seq_read (fun _ => True) (fun _ _ => trivial) _ (v := ?_) rfl rfl (by rfl) ?_ ?_; rotate_left; (· intro w' hF; go_simp; (try with_reducible rfl)); simp only [Act.put, List.setIfInBounds_toArray, List.set_cons_zero, List.set_cons_succ]) | (refine seq_skip _ rfl rfl (by rfl) ?_; simp only [Act.put, List.setIfInBounds_toArray, List.set_cons_zero, List.set_cons_succ]))
                          (first | (refine seq_read (fun _ => True) (fun _ _ => trivial) _ (v := ?_) rfl rfl (by rfl) ?_ ?_; rotate_left; (· intro w' hF; go_simp; (try with_reducible rfl)); simp only [Act.put, List.setIfInBounds_toArray, List.set_cons_zero, List.set_cons_succ]) | (refine seq_skip _ rfl rfl (by rfl) ?_; simp only [Act.put, List.setIfInBounds_toArray, List.set_cons_zero, List.set_cons_succ]))
                          refine seq_read (fun w' => ∀ q_ v, (cellsOf ya)[q_]? = some v → w'.cell? ⟨g12, (k * 64) + q_, none⟩ = some v) (fun w' e => (F9.out w' (Ext.trans (Ext.refl _).drew e)).2.1) _ (v := .agg (cellsOf ya).toArray) rfl rfl (by rfl) (fun w' hF => exec_load_mid rfl rfl hF rfl rfl (by rw [C_a]; rfl)) ?_
                          simp only [Act.put, List.setIfInBounds_toArray, List.set_cons_zero, List.set_cons_succ]
                          refine seq_read (fun _ => True) (fun _ _ => trivial) _ (v := .bool true) rfl rfl (by rfl) (fun w' _ => exec_neq_sector (xs := xs) (ys := ya) Q1.out L_x L_a rfl rfl rfl) ?_
                          simp only [Act.put, List.setIfInBounds_toArray, List.set_cons_zero, List.set_cons_succ]
                          (first | (refine seq_read (fun _ => True) (fun _ _ => trivial) _ (v := ?_) rfl rfl (by rfl) ?_ ?_; rotate_left; (· intro w' hF; go_simp; (try with_reducible rfl)); simp only [Act.put, List.setIfInBounds_toArray, List.set_cons_zero, List.set_cons_succ]) | (refine seq_skip _ rfl rfl (by rfl) ?_; simp only [Act.put, List.setIfInBounds_toArray, List.set_cons_zero, List.set_cons_succ]))
                          refine seq_read (fun w' => w'.heap[g22]? = some (.cells (cellsOf xs).toArray 58 (0, 0))) (fun w' e => (F9.out w' (Ext.trans (Ext.refl _).drew e)).1) _ (v := .agg (cellsOf xs).toArray) rfl rfl (by rfl) (fun w' hF => exec_load_row rfl rfl hF rfl rfl (by rw [S_x]; rfl)) ?_
                          simp only [Act.put, List.setIfInBounds_toArray, List.set_cons_zero, List.set_cons_succ]
                          (first | (refine seq_read (fun _ => True) (fun _ _ => trivial) _ (v := ?_) rfl rfl (by rfl) ?_ ?_; rotate_left; (· intro w' hF; go_simp; (try with_reducible rfl)); simp only [Act.put, List.setIfInBounds_toArray, List.set_cons_zero, List.set_cons_succ]) | (refine seq_skip _ rfl rfl (by rfl) ?_; simp only [Act.put, List.setIfInBounds_toArray, List.set_cons_zero, List.set_cons_succ]))
                          (first | (refine seq_read (fun _ => True) (fun _ _ => trivial) _ (v := ?_) rfl rfl (by rfl) ?_ ?_; rotate_left; (· intro w' hF; go_simp; (try with_reducible rfl)); simp only [Act.put, List.setIfInBounds_toArray, List.set_cons_zero, List.set_cons_succ]) | (refine seq_skip _ rfl rfl (by rfl) ?_; simp only [Act.put, List.setIfInBounds_toArray, List.set_cons_zero, List.set_cons_succ]))
                          refine seq_read (fun w' => ∀ q_ v, (cellsOf yb)[q_]? = some v → w'.cell? ⟨g17, (k * 64) + q_, none⟩ = some v) (fun w' e => (F9.out w' (Ext.trans (Ext.refl _).drew e)).2.2) _ (v := .agg (cellsOf yb).toArray) rfl rfl (by rfl) (fun w' hF => exec_load_mid rfl rfl hF rfl rfl (by rw [C_b]; rfl)) ?_
                          simp only [Act.put, List.setIfInBounds_toArray, List.set_cons_zero, List.set_cons_succ]
                          refine seq_read (fun _ => True) (fun _ _ => trivial) _ (v := .bool false) rfl rfl (by rfl) (fun w' _ => exec_neq_sector (xs := xs) (ys := yb) Q2.out L_x L_b rfl rfl rfl) ?_
                          simp only [Act.put, List.setIfInBounds_toArray, List.set_cons_zero, List.set_cons_succ]
                          (first | (refine seq_read (fun _ => True) (fun _ _ => trivial) _ (v := ?_) rfl rfl (by rfl) ?_ ?_; rotate_left; (· intro w' hF; go_simp; (try with_reducible rfl)); simp only [Act.put, List.setIfInBounds_toArray, List.set_cons_zero, List.set_cons_succ]) | (refine seq_skip _ rfl rfl (by rfl) ?_; simp only [Act.put, List.setIfInBounds_toArray, List.set_cons_zero, List.set_cons_succ]))
                          (first | (refine seq_read (fun _ => True) (fun _ _ => trivial) _ (v := ?_) rfl rfl (by rfl) ?_ ?_; rotate_left; (· intro w' hF; go_simp; (try with_reducible rfl)); simp only [Act.put, List.setIfInBounds_toArray, List.set_cons_zero, List.set_cons_succ]) | (refine seq_skip _ rfl rfl (by rfl) ?_; simp only [Act.put, List.setIfInBounds_toArray, List.set_cons_zero, List.set_cons_succ]))
                          (first | (refine seq_read (fun _ => True) (fun _ _ => trivial) _ (v := ?_) rfl rfl (by rfl) ?_ ?_; rotate_left; (· intro w' hF; go_simp; (try with_reducible rfl)); simp only [Act.put, List.setIfInBounds_toArray, List.set_cons_zero, List.set_cons_succ]) | (refine seq_skip _ rfl rfl (by rfl) ?_; simp only [Act.put, List.setIfInBounds_toArray, List.set_cons_zero, List.set_cons_succ]))
                          (first | (refine seq_read (fun _ => True) (fun _ _ => trivial) _ (v := ?_) rfl rfl (by rfl) ?_ ?_; rotate_left; (· intro w' hF; go_simp; (try with_reducible rfl)); simp only [Act.put, List.setIfInBounds_toArray, List.set_cons_zero, List.set_cons_succ]) | (refine seq_skip _ rfl rfl (by rfl) ?_; simp only [Act.put, List.setIfInBounds_toArray, List.set_cons_zero, List.set_cons_succ]))
                          (first | (refine seq_read (fun _ => True) (fun _ _ => trivial) _ (v := ?_) rfl rfl (by rfl) ?_ ?_; rotate_left; (· intro w' hF; go_simp; (try with_reducible rfl)); simp only [Act.put, List.setIfInBounds_toArray, List.set_cons_zero, List.set_cons_succ]) | (refine seq_skip _ rfl rfl (by rfl) ?_; simp only [Act.put, List.setIfInBounds_toArray, List.set_cons_zero, List.set_cons_succ]))
                          (first | (refine seq_read (fun _ => True) (fun _ _ => trivial) _ (v := ?_) rfl rfl (by rfl) ?_ ?_; rotate_left; (· intro w' hF; go_simp; (try with_reducible rfl)); simp only [Act.put, List.setIfInBounds_toArray, List.set_cons_zero, List.set_cons_succ]) | (refine seq_skip _ rfl rfl (by rfl) ?_; simp only [Act.put, List.setIfInBounds_toArray, List.set_cons_zero, List.set_cons_succ]))
                          refine seq_read (fun w' => w'.heap[g22]? = some (.cells (cellsOf xs).toArray 58 (0, 0))) (fun w' e => (F9.out w' (Ext.trans (Ext.refl _).drew e)).1) _ (v := .agg (cellsOf xs).toArray) rfl rfl (by rfl) (fun w' hF => exec_load_row rfl rfl hF rfl rfl (by rw [S_x]; rfl)) ?_
                          simp only [Act.put, List.setIfInBounds_toArray, List.set_cons_zero, List.set_cons_succ]
                          (first | (refine seq_read (fun _ => True) (fun _ _ => trivial) _ (v := ?_) rfl rfl (by rfl) ?_ ?_; rotate_left; (· intro w' hF; go_simp; (try with_reducible rfl)); simp only [Act.put, List.setIfInBounds_toArray, List.set_cons_zero, List.set_cons_succ]) | (refine seq_skip _ rfl rfl (by rfl) ?_; simp only [Act.put, List.setIfInBounds_toArray, List.set_cons_zero, List.set_cons_succ]))
                          (first | (refine seq_read (fun _ => True) (fun _ _ => trivial) _ (v := ?_) rfl rfl (by rfl) ?_ ?_; rotate_left; (· intro w' hF; go_simp; (try with_reducible rfl)); simp only [Act.put, List.setIfInBounds_toArray, List.set_cons_zero, List.set_cons_succ]) | (refine seq_skip _ rfl rfl (by rfl) ?_; simp only [Act.put, List.setIfInBounds_toArray, List.set_cons_zero, List.set_cons_succ]))
                          refine seq_read (fun w' => ∀ q_ v, (cellsOf yb)[q_]? = some v → w'.cell? ⟨g17, (k * 64) + q_, none⟩ = some v) (fun w' e => (F9.out w' (Ext.trans (Ext.refl _).drew e)).2.2) _ (v := .agg (cellsOf yb).toArray) rfl rfl (by rfl) (fun w' hF => exec_load_mid rfl rfl hF rfl rfl (by rw [C_b]; rfl)) ?_
                          simp only [Act.put, List.setIfInBounds_toArray, List.set_cons_zero, List.set_cons_succ]
                          refine seq_read (fun _ => True) (fun _ _ => trivial) _ (v := .bool false) rfl rfl (by rfl) (fun w' _ => exec_neq_sector (xs := xs) (ys := yb) Q2.out L_x L_b rfl rfl rfl) ?_
                          simp only [Act.put, List.setIfInBounds_toArray, List.set_cons_zero, List.set_cons_succ]
                          (first | (refine seq_read (fun _ => True) (fun _ _ => trivial) _ (v := ?_) rfl rfl (by rfl) ?_ ?_; rotate_left; (· intro w' hF; go_simp; (try with_reducible rfl)); simp only [Act.put, List.setIfInBounds_toArray, List.set_cons_zero, List.set_cons_succ]) | (refine seq_skip _ rfl rfl (by rfl) ?_; simp only [Act.put, List.setIfInBounds_toArray, List.set_cons_zero, List.set_cons_succ]))
                          (first | (refine seq_read (fun _ => True) (fun _ _ => trivial) _ (v := ?_) rfl rfl (by rfl) ?_ ?_; rotate_left; (· intro w' hF; go_simp; (try with_reducible rfl)); simp only [Act.put, List.setIfInBounds_toArray, List.set_cons_zero, List.set_cons_succ]) | (refine seq_skip _ rfl rfl (by rfl) ?_; simp only [Act.put, List.setIfInBounds_toArray, List.set_cons_zero, List.set_cons_succ]))
                          (first | (refine seq_read (fun _ => True) (fun _ _ => trivial) _ (v := ?_) rfl rfl (by rfl) ?_ ?_; rotate_left; (· intro w' hF; go_simp; (try with_reducible rfl)); simp only [Act.put, List.setIfInBounds_toArray, List.set_cons_zero, List.set_cons_succ]) | (refine seq_skip _ rfl rfl (by rfl) ?_; simp only [Act.put, List.setIfInBounds_toArray, List.set_cons_zero, List.set_cons_succ]))
                          (first | (refine seq_read (fun _ => True) (fun _ _ => trivial) _ (v := ?_) rfl rfl (by rfl) ?_ ?_; rotate_left; (· intro w' hF; go_simp; (try with_reducible rfl)); simp only [Act.put, List.setIfInBounds_toArray, List.set_cons_zero, List.set_cons_succ]) | (refine seq_skip _ rfl rfl (by rfl) ?_; simp only [Act.put, List.setIfInBounds_toArray, List.set_cons_zero, List.set_cons_succ]))
                          (first | (refine seq_read (fun _ => True) (fun _ _ => trivial) _ (v := ?_) rfl rfl (by rfl) ?_ ?_; rotate_left; (· intro w' hF; go_simp; (try with_reducible rfl)); simp only [Act.put, List.setIfInBounds_toArray, List.set_cons_zero, List.set_cons_succ]) | (refine seq_skip _ rfl rfl (by rfl) ?_; simp only [Act.put, List.setIfInBounds_toArray, List.set_cons_zero, List.set_cons_succ]))
                          (first | (refine seq_read (fun _ => True) (fun _ _ => trivial) _ (v := ?_) rfl rfl (by rfl) ?_ ?_; rotate_left; (· intro w' hF; go_simp; (try with_reducible rfl)); simp only [Act.put, List.setIfInBounds_toArray, List.set_cons_zero, List.set_cons_succ]) | (refine seq_skip _ rfl rfl (by rfl) ?_; simp only [Act.put, List.setIfInBounds_toArray, List.set_cons_zero, List.set_cons_succ]))
                          (first | (refine seq_read (fun _ => True) (fun _ _ => trivial) _ (v := ?_) rfl rfl (by rfl) ?_ ?_; rotate_left; (· intro w' hF; go_simp; (try with_reducible rfl)); simp only [Act.put, List.setIfInBounds_toArray, List.set_cons_zero, List.set_cons_succ]) | (refine seq_skip _ rfl rfl (by rfl) ?_; simp only [Act.put, List.setIfInBounds_toArray, List.set_cons_zero, List.set_cons_succ]))
                          (first | (refine seq_read (fun _ => True) (fun _ _ => trivial) _ (v := ?_) rfl rfl (by rfl) ?_ ?_; rotate_left; (· intro w' hF; go_simp; (try with_reducible rfl)); simp only [Act.put, List.setIfInBounds_toArray, List.set_cons_zero, List.set_cons_succ]) | (refine seq_skip _ rfl rfl (by rfl) ?_; simp only [Act.put, List.setIfInBounds_toArray, List.set_cons_zero, List.set_cons_succ]))
                          (first | (refine seq_read (fun _ => True) (fun _ _ => trivial) _ (v := ?_) rfl rfl (by rfl) ?_ ?_; rotate_left; (· intro w' hF; go_simp; (try with_reducible rfl)); simp only [Act.put, List.setIfInBounds_toArray, List.set_cons_zero, List.set_cons_succ]) | (refine seq_skip _ rfl rfl (by rfl) ?_; simp only [Act.put, List.setIfInBounds_toArray, List.set_cons_zero, List.set_cons_succ]))
                          (first | (refine seq_read (fun _ => True) (fun _ _ => trivial) _ (v := ?_) rfl rfl (by rfl) ?_ ?_; rotate_left; (· intro w' hF; go_simp; (try with_reducible rfl)); simp only [Act.put, List.setIfInBounds_toArray, List.set_cons_zero, List.set_cons_succ]) | (refine seq_skip _ rfl rfl (by rfl) ?_; simp only [Act.put, List.setIfInBounds_toArray, List.set_cons_zero, List.set_cons_succ]))
                          (first | (refine seq_read (fun _ => True) (fun _ _ => trivial) _ (v := ?_) rfl rfl (by rfl) ?_ ?_; rotate_left; (· intro w' hF; go_simp; (try with_reducible rfl)); simp only [Act.put, List.setIfInBounds_toArray, List.set_cons_zero, List.set_cons_succ]) | (refine seq_skip _ rfl rfl (by rfl) ?_; simp only [Act.put, List.setIfInBounds_toArray, List.set_cons_zero, List.set_cons_succ]))
                          (first | (refine seq_read (fun _ => True) (fun _ _ => trivial) _ (v := ?_) rfl rfl (by rfl) ?_ ?_; rotate_left; (· intro w' hF; go_simp; (try with_reducible rfl)); simp only [Act.put, List.setIfInBounds_toArray, List.set_cons_zero, List.set_cons_succ]) | (refine seq_skip _ rfl rfl (by rfl) ?_; simp only [Act.put, List.setIfInBounds_toArray, List.set_cons_zero, List.set_cons_succ]))
                          (first | (refine seq_read (fun _ => True) (fun _ _ => trivial) _ (v := ?_) rfl rfl (by rfl) ?_ ?_; rotate_left; (· intro w' hF; go_simp; (try with_reducible rfl)); simp only [Act.put, List.setIfInBounds_toArray, List.set_cons_zero, List.set_cons_succ]) | (refine seq_skip _ rfl rfl (by rfl) ?_; simp only [Act.put, List.setIfInBounds_toArray, List.set_cons_zero, List.set_cons_succ]))
                          refine seq_done ?_
                          have X2 : Hid (Ext w6 w9.drew) := X9.out.drew
                          go_wp2_with fail
                          go_meet
                          exact ⟨rfl, X2.out⟩
                        · exact absurd (T3 rfl) (by simp)
                        · skip
                          refine wp_region_seq (R := Ext) Ext.refl (fun _ _ _ => Ext.trans) [0, 1, 2, 3, 4, 5, 6, 7, 8, 9, 10, 11, 12, 13, 14, 15, 16, 17, 18, 19, 20, 21, 22, 23, 24, 25, 26, 27, 28, 29, 30, 31, 32, 33, 34, 35, 36, 37] [] [(0, 130, 16777216), (1, 131, 1361129467683753853853498429727072845824), (2, 132, 2722258935367507707706996859454145691648), (4, 133, 5444517870735015415413993718908299771904), (4, 134, 5444517870735015415413993718908295577600), (20, 135, 27222589353675077077069968594541456924672), (36, 136, 49000660836615138738725943470174622449664), (76, 137, 103445839543965292892865880659257536282624), (132, 138, 179669089734255508708661792723973615648768), (256, 139, 348449143727040986586495598010130656919552), (256, 140, 348449143727040986586495598010130652725248), (1280, 141, 1742245718635204932932477990050653242916864), (2304, 142, 3136042293543368879278460382091175836778496), (4864, 143, 6620533730813778745143416362192482322087936), (8452, 144, 11504266260863087572769768728053219692904448), (16388, 145, 22306189716401358156951132266367269797363712), (33024, 146, 44601490397061246283071436545296723011960832), (65536, 147, 89202980794122492566142873090593446023921672), (196608, 148, 267608942382367477698428619271780338071764992), (327680, 149, 446014903970612462830714365452967230119608320), (524288, 150, 713623846352979940529142984724747568199761920), (524288, 151, 713623846352979940529142984724747568195567616), (2621440, 152, 3568119231764899702645714923623737840957128704), (4718592, 153, 6422614617176819464762286862522728113722359808), (9961472, 154, 13558853080706618870053716709770203795636092928), (17367040, 155, 23638789910442460530027861369007263196339240960), (33619968, 156, 45761129147384838686431293895474437810271813632), (67633152, 157, 91343852333181432387730302044767688728495783936), (134217728, 158, 182687704666362864775460604089535377456991567880), (402653184, 159, 548063113999088594326381812268606132370974703616), (671088640, 160, 913438523331814323877303020447676887284957839360), (1073741824, 161, 1461501637330902918203684832716283019655940931584), (1073741824, 162, 1461501637330902918203684832716283019655936737280), (5368709120, 163, 7307508186654514591018424163581415098279662723072), (9663676416, 164, 13153514735978126263833163494446547176903392886784), (20401094656, 165, 27768531109287155445870011821609377373462718316544), (35567697920, 166, 48412241736586159165497060083726875026102765486080), (68853694464, 167, 93718792493844149629811289897931648635436674318336)] (by kernel_rfl) (by kernel_rfl) (by kernel_rfl) rfl (by kernel_rfl) (by kernel_rfl) (fun _ _ d _ _ h => by cases d <;> exact h) ?_
                          (first | (refine seq_read (fun _ => True) (fun _ _ => trivial) _ (v := ?_) rfl rfl (by rfl) ?_ ?_; rotate_left; (· intro w' hF; go_simp; (try with_reducible rfl)); simp only [Act.put, List.setIfInBounds_toArray, List.set_cons_zero, List.set_cons_succ]) | (refine seq_skip _ rfl rfl (by rfl) ?_; simp only [Act.put, List.setIfInBounds_toArray, List.set_cons_zero, List.set_cons_succ]))
                          (first | (refine seq_read (fun _ => True) (fun _ _ => trivial) _ (v := ?_) rfl rfl (by rfl) ?_ ?_; rotate_left; (· intro w' hF; go_simp; (try with_reducible rfl)); simp only [Act.put, List.setIfInBounds_toArray, List.set_cons_zero, List.set_cons_succ]) | (refine seq_skip _ rfl rfl (by rfl) ?_; simp only [Act.put, List.setIfInBounds_toArray, List.set_cons_zero, List.set_cons_succ]))
                          (first | (refine seq_read (fun _ => True) (fun _ _ => trivial) _ (v := ?_) rfl rfl (by rfl) ?_ ?_; rotate_left; (· intro w' hF; go_simp; (try with_reducible rfl)); simp only [Act.put, List.setIfInBounds_toArray, List.set_cons_zero, List.set_cons_succ]) | (refine seq_skip _ rfl rfl (by rfl) ?_; simp only [Act.put, List.setIfInBounds_toArray, List.set_cons_zero, List.set_cons_succ]))
                          refine seq_read (fun w' => w'.heap[g22]? = some (.cells (cellsOf xs).toArray 58 (0, 0))) (fun w' e => (F9.out w' (Ext.trans (Ext.refl _).drew e)).1) _ (v := .agg (cellsOf xs).toArray) rfl rfl (by rfl) (fun w' hF => exec_load_row rfl rfl hF rfl rfl (by rw [S_x]; rfl)) ?_
                          simp only [Act.put, List.setIfInBounds_toArray, List.set_cons_zero, List.set_cons_succ]
                          (first | (refine seq_read (fun _ => True) (fun _ _ => trivial) _ (v := ?_) rfl rfl (by rfl) ?_ ?_; rotate_left; (· intro w' hF; go_simp; (try with_reducible rfl)); simp only [Act.put, List.setIfInBounds_toArray, List.set_cons_zero, List.set_cons_succ]) | (refine seq_skip _ rfl rfl (by rfl) ?_; simp only [Act.put, List.setIfInBounds_toArray, List.set_cons_zero, List.set_cons_succ]))
                          (first | (refine seq_read (fun _ => True) (fun _ _ => trivial) _ (v := ?_) rfl rfl (by rfl) ?_ ?_; rotate_left; (· intro w' hF; go_simp; (try with_reducible rfl)); simp only [Act.put, List.setIfInBounds_toArray, List.set_cons_zero, List.set_cons_succ]) | (refine seq_skip _ rfl rfl (by rfl) ?_; simp only [Act.put, List.setIfInBounds_toArray, List.set_cons_zero, List.set_cons_succ]))
                          refine seq_read (fun w' => ∀ q_ v, (cellsOf ya)[q_]? = some v → w'.cell? ⟨g12, (k * 64) + q_, none⟩ = some v) (fun w' e => (F9.out w' (Ext.trans (Ext.refl _).drew e)).2.1) _ (v := .agg (cellsOf ya).toArray) rfl rfl (by rfl) (fun w' hF => exec_load_mid rfl rfl hF rfl rfl (by rw [C_a]; rfl)) ?_
                          simp only [Act.put, List.setIfInBounds_toArray, List.set_cons_zero, List.set_cons_succ]
                          refine seq_read (fun _ => True) (fun _ _ => trivial) _ (v := .bool false) rfl rfl (by rfl) (fun w' _ => exec_neq_sector (xs := xs) (ys := ya) Q1.out L_x L_a rfl rfl rfl) ?_
                          simp only [Act.put, List.setIfInBounds_toArray, List.set_cons_zero, List.set_cons_succ]
                          (first | (refine seq_read (fun _ => True) (fun _ _ => trivial) _ (v := ?_) rfl rfl (by rfl) ?_ ?_; rotate_left; (· intro w' hF; go_simp; (try with_reducible rfl)); simp only [Act.put, List.setIfInBounds_toArray, List.set_cons_zero, List.set_cons_succ]) | (refine seq_skip _ rfl rfl (by rfl) ?_; simp only [Act.put, List.setIfInBounds_toArray, List.set_cons_zero, List.set_cons_succ]))
                          (first | (refine seq_read (fun _ => True) (fun _ _ => trivial) _ (v := ?_) rfl rfl (by rfl) ?_ ?_; rotate_left; (· intro w' hF; go_simp; (try with_reducible rfl)); simp only [Act.put, List.setIfInBounds_toArray, List.set_cons_zero, List.set_cons_succ]) | (refine seq_skip _ rfl rfl (by rfl) ?_; simp only [Act.put, List.setIfInBounds_toArray, List.set_cons_zero, List.set_cons_succ]))
                          (first | (refine seq_read (fun _ => True) (fun _ _ => trivial) _ (v := ?_) rfl rfl (by rfl) ?_ ?_; rotate_left; (· intro w' hF; go_simp; (try with_reducible rfl)); simp only [Act.put, List.setIfInBounds_toArray, List.set_cons_zero, List.set_cons_succ]) | (refine seq_skip _ rfl rfl (by rfl) ?_; simp only [Act.put, List.setIfInBounds_toArray, List.set_cons_zero, List.set_cons_succ]))
                          (first | (refine seq_read (fun _ => True) (fun _ _ => trivial) _ (v := ?_) rfl rfl (by rfl) ?_ ?_; rotate_left; (· intro w' hF; go_simp; (try with_reducible rfl)); simp only [Act.put, List.setIfInBounds_toArray, List.set_cons_zero, List.set_cons_succ]) | (refine seq_skip _ rfl rfl (by rfl) ?_; simp only [Act.put, List.setIfInBounds_toArray, List.set_cons_zero, List.set_cons_succ]))
                          (first | (refine seq_read (fun _ => True) (fun _ _ => trivial) _ (v := ?_) rfl rfl (by rfl) ?_ ?_; rotate_left; (· intro w' hF; go_simp; (try with_reducible rfl)); simp only [Act.put, List.setIfInBounds_toArray, List.set_cons_zero, List.set_cons_succ]) | (refine seq_skip _ rfl rfl (by rfl) ?_; simp only [Act.put, List.setIfInBounds_toArray, List.set_cons_zero, List.set_cons_succ]))
                          (first | (refine seq_read (fun _ => True) (fun _ _ => trivial) _ (v := ?_) rfl rfl (by rfl) ?_ ?_; rotate_left; (· intro w' hF; go_simp; (try with_reducible rfl)); simp only [Act.put, List.setIfInBounds_toArray, List.set_cons_zero, List.set_cons_succ]) | (refine seq_skip _ rfl rfl (by rfl) ?_; simp only [Act.put, List.setIfInBounds_toArray, List.set_cons_zero, List.set_cons_succ]))
                          (first | (refine seq_read (fun _ => True) (fun _ _ => trivial) _ (v := ?_) rfl rfl (by rfl) ?_ ?_; rotate_left; (· intro w' hF; go_simp; (try with_reducible rfl)); simp only [Act.put, List.setIfInBounds_toArray, List.set_cons_zero, List.set_cons_succ]) | (refine seq_skip _ rfl rfl (by rfl) ?_; simp only [Act.put, List.setIfInBounds_toArray, List.set_cons_zero, List.set_cons_succ]))
                          (first | (refine seq_read (fun _ => True) (fun _ _ => trivial) _ (v := ?_) rfl rfl (by rfl) ?_ ?_; rotate_left; (· intro w' hF; go_simp; (try with_reducible rfl)); simp only [Act.put, List.setIfInBounds_toArray, List.set_cons_zero, List.set_cons_succ]) | (refine seq_skip _ rfl rfl (by rfl) ?_; simp only [Act.put, List.setIfInBounds_toArray, List.set_cons_zero, List.set_cons_succ]))
                          (first | (refine seq_read (fun _ => True) (fun _ _ => trivial) _ (v := ?_) rfl rfl (by rfl) ?_ ?_; rotate_left; (· intro w' hF; go_simp; (try with_reducible rfl)); simp only [Act.put, List.setIfInBounds_toArray, List.set_cons_zero, List.set_cons_succ]) | (refine seq_skip _ rfl rfl (by rfl) ?_; simp only [Act.put, List.setIfInBounds_toArray, List.set_cons_zero, List.set_cons_succ]))
                          (first | (refine seq_read (fun _ => True) (fun _ _ => trivial) _ (v := ?_) rfl rfl (by rfl) ?_ ?_; rotate_left; (· intro w' hF; go_simp; (try with_reducible rfl)); simp only [Act.put, List.setIfInBounds_toArray, List.set_cons_zero, List.set_cons_succ]) | (refine seq_skip _ rfl rfl (by rfl) ?_; simp only [Act.put, List.setIfInBounds_toArray, List.set_cons_zero, List.set_cons_succ]))
                          (first | (refine seq_read (fun _ => True) (fun _ _ => trivial) _ (v := ?_) rfl rfl (by rfl) ?_ ?_; rotate_left; (· intro w' hF; go_simp; (try with_reducible rfl)); simp only [Act.put, List.setIfInBounds_toArray, List.set_cons_zero, List.set_cons_succ]) | (refine seq_skip _ rfl rfl (by rfl) ?_; simp only [Act.put, List.setIfInBounds_toArray, List.set_cons_zero, List.set_cons_succ]))
                          (first | (refine seq_read (fun _ => True) (fun _ _ => trivial) _ (v := ?_) rfl rfl (by rfl) ?_ ?_; rotate_left; (· intro w' hF; go_simp; (try with_reducible rfl)); simp only [Act.put, List.setIfInBounds_toArray, List.set_cons_zero, List.set_cons_succ]) | (refine seq_skip _ rfl rfl (by rfl) ?_; simp only [Act.put, List.setIfInBounds_toArray, List.set_cons_zero, List.set_cons_succ]))
                          (first | (refine seq_read (fun _ => True) (fun _ _ => trivial) _ (v := ?_) rfl rfl (by rfl) ?_ ?_; rotate_left; (· intro w' hF; go_simp; (try with_reducible rfl)); simp only [Act.put, List.setIfInBounds_toArray, List.set_cons_zero, List.set_cons_succ]) | (refine seq_skip _ rfl rfl (by rfl) ?_; simp only [Act.put, List.setIfInBounds_toArray, List.set_cons_zero, List.set_cons_succ]))
                          (first | (refine seq_read (fun _ => True) (fun _ _ => trivial) _ (v := ?_) rfl rfl (by rfl) ?_ ?_; rotate_left; (· intro w' hF; go_simp; (try with_reducible rfl)); simp only [Act.put, List.setIfInBounds_toArray, List.set_cons_zero, List.set_cons_succ]) | (refine seq_skip _ rfl rfl (by rfl) ?_; simp only [Act.put, List.setIfInBounds_toArray, List.set_cons_zero, List.set_cons_succ]))
                          (first | (refine seq_read (fun _ => True) (fun _ _ => trivial) _ (v := ?_) rfl rfl (by rfl) ?_ ?_; rotate_left; (· intro w' hF; go_simp; (try with_reducible rfl)); simp only [Act.put, List.setIfInBounds_toArray, List.set_cons_zero, List.set_cons_succ]) | (refine seq_skip _ rfl rfl (by rfl) ?_; simp only [Act.put, List.setIfInBounds_toArray, List.set_cons_zero, List.set_cons_succ]))
                          (first | (refine seq_read (fun _ => True) (fun _ _ => trivial) _ (v := ?_) rfl rfl (by rfl) ?_ ?_; rotate_left; (· intro w' hF; go_simp; (try with_reducible rfl)); simp only [Act.put, List.setIfInBounds_toArray, List.set_cons_zero, List.set_cons_succ]) | (refine seq_skip _ rfl rfl (by rfl) ?_; simp only [Act.put, List.setIfInBounds_toArray, List.set_cons_zero, List.set_cons_succ]))
                          (first | (refine seq_read (fun _ => True) (fun _ _ => trivial) _ (v := ?_) rfl rfl (by rfl) ?_ ?_; rotate_left; (· intro w' hF; go_simp; (try with_reducible rfl)); simp only [Act.put, List.setIfInBounds_toArray, List.set_cons_zero, List.set_cons_succ]) | (refine seq_skip _ rfl rfl (by rfl) ?_; simp only [Act.put, List.setIfInBounds_toArray, List.set_cons_zero, List.set_cons_succ]))
                          (first | (refine seq_read (fun _ => True) (fun _ _ => trivial) _ (v := ?_) rfl rfl (by rfl) ?_ ?_; rotate_left; (· intro w' hF; go_simp; (try with_reducible rfl)); simp only [Act.put, List.setIfInBounds_toArray, List.set_cons_zero, List.set_cons_succ]) | (refine seq_skip _ rfl rfl (by rfl) ?_; simp only [Act.put, List.setIfInBounds_toArray, List.set_cons_zero, List.set_cons_succ]))
                          (first | (refine seq_read (fun _ => True) (fun _ _ => trivial) _ (v := ?_) rfl rfl (by rfl) ?_ ?_; rotate_left; (· intro w' hF; go_simp; (try with_reducible rfl)); simp only [Act.put, List.setIfInBounds_toArray, List.set_cons_zero, List.set_cons_succ]) | (refine seq_skip _ rfl rfl (by rfl) ?_; simp only [Act.put, List.setIfInBounds_toArray, List.set_cons_zero, List.set_cons_succ]))
                          (first | (refine seq_read (fun _ => True) (fun _ _ => trivial) _ (v := ?_) rfl rfl (by rfl) ?_ ?_; rotate_left; (· intro w' hF; go_simp; (try with_reducible rfl)); simp only [Act.put, List.setIfInBounds_toArray, List.set_cons_zero, List.set_cons_succ]) | (refine seq_skip _ rfl rfl (by rfl) ?_; simp only [Act.put, List.setIfInBounds_toArray, List.set_cons_zero, List.set_cons_succ]))
                          (first | (refine seq_read (fun _ => True) (fun _ _ => trivial) _ (v := ?_) rfl rfl (by rfl) ?_ ?_; rotate_left; (· intro w' hF; go_simp; (try with_reducible rfl)); simp only [Act.put, List.setIfInBounds_toArray, List.set_cons_zero, List.set_cons_succ]) | (refine seq_skip _ rfl rfl (by rfl) ?_; simp only [Act.put, List.setIfInBounds_toArray, List.set_cons_zero, List.set_cons_succ]))
                          (first | (refine seq_read (fun _ => True) (fun _ _ => trivial) _ (v := ?_) rfl rfl (by rfl) ?_ ?_; rotate_left; (· intro w' hF; go_simp; (try with_reducible rfl)); simp only [Act.put, List.setIfInBounds_toArray, List.set_cons_zero, List.set_cons_succ]) | (refine seq_skip _ rfl rfl (by rfl) ?_; simp only [Act.put, List.setIfInBounds_toArray, List.set_cons_zero, List.set_cons_succ]))
                          (first | (refine seq_read (fun _ => True) (fun _ _ => trivial) _ (v := ?_) rfl rfl (by rfl) ?_ ?_; rotate_left; (· intro w' hF; go_simp; (try with_reducible rfl)); simp only [Act.put, List.setIfInBounds_toArray, List.set_cons_zero, List.set_cons_succ]) | (refine seq_skip _ rfl rfl (by rfl) ?_; simp only [Act.put, List.setIfInBounds_toArray, List.set_cons_zero, List.set_cons_succ]))
                          (first | (refine seq_read (fun _ => True) (fun _ _ => trivial) _ (v := ?_) rfl rfl (by rfl) ?_ ?_; rotate_left; (· intro w' hF; go_simp; (try with_reducible rfl)); simp only [Act.put, List.setIfInBounds_toArray, List.set_cons_zero, List.set_cons_succ]) | (refine seq_skip _ rfl rfl (by rfl) ?_; simp only [Act.put, List.setIfInBounds_toArray, List.set_cons_zero, List.set_cons_succ]))
                          (first | (refine seq_read (fun _ => True) (fun _ _ => trivial) _ (v := ?_) rfl rfl (by rfl) ?_ ?_; rotate_left; (· intro w' hF; go_simp; (try with_reducible rfl)); simp only [Act.put, List.setIfInBounds_toArray, List.set_cons_zero, List.set_cons_succ]) | (refine seq_skip _ rfl rfl (by rfl) ?_; simp only [Act.put, List.setIfInBounds_toArray, List.set_cons_zero, List.set_cons_succ]))
                          (first | (refine seq_read (fun _ => True) (fun _ _ => trivial) _ (v := ?_) rfl rfl (by rfl) ?_ ?_; rotate_left; (· intro w' hF; go_simp; (try with_reducible rfl)); simp only [Act.put, List.setIfInBounds_toArray, List.set_cons_zero, List.set_cons_succ]) | (refine seq_skip _ rfl rfl (by rfl) ?_; simp only [Act.put, List.setIfInBounds_toArray, List.set_cons_zero, List.set_cons_succ]))
                          (first | (refine seq_read (fun _ => True) (fun _ _ => trivial) _ (v := ?_) rfl rfl (by rfl) ?_ ?_; rotate_left; (· intro w' hF; go_simp; (try with_reducible rfl)); simp only [Act.put, List.setIfInBounds_toArray, List.set_cons_zero, List.set_cons_succ]) | (refine seq_skip _ rfl rfl (by rfl) ?_; simp only [Act.put, List.setIfInBounds_toArray, List.set_cons_zero, List.set_cons_succ]))
                          (first | (refine seq_read (fun _ => True) (fun _ _ => trivial) _ (v := ?_) rfl rfl (by rfl) ?_ ?_; rotate_left; (· intro w' hF; go_simp; (try with_reducible rfl)); simp only [Act.put, List.setIfInBounds_toArray, List.set_cons_zero, List.set_cons_succ]) | (refine seq_skip _ rfl rfl (by rfl) ?_; simp only [Act.put, List.setIfInBounds_toArray, List.set_cons_zero, List.set_cons_succ]))
                          (first | (refine seq_read (fun _ => True) (fun _ _ => trivial) _ (v := ?_) rfl rfl (by rfl) ?_ ?_; rotate_left; (· intro w' hF; go_simp; (try with_reducible rfl)); simp only [Act.put, List.setIfInBounds_toArray, List.set_cons_zero, List.set_cons_succ]) | (refine seq_skip _ rfl rfl (by rfl) ?_; simp only [Act.put, List.setIfInBounds_toArray, List.set_cons_zero, List.set_cons_succ]))
                          (first | (refine seq_read (fun _ => True) (fun _ _ => trivial) _ (v := ?_) rfl rfl (by rfl) ?_ ?_; rotate_left; (· intro w' hF; go_simp; (try with_reducible rfl)); simp only [Act.put, List.setIfInBounds_toArray, List.set_cons_zero, List.set_cons_succ]) | (refine seq_skip _ rfl rfl (by rfl) ?_; simp only [Act.put, List.setIfInBounds_toArray, List.set_cons_zero, List.set_cons_succ]))
                          refine seq_done ?_
                          have X2 : Hid (Ext w6 w9.drew) := X9.out.drew
                          go_wp2_with fail
                          go_meet
                          exact ⟨rfl, X2.out⟩
                        · skip
                          refine wp_region_seq (R := Ext) Ext.refl (fun _ _ _ => Ext.trans) [0, 1, 2, 3, 4, 5, 6, 7, 8, 9, 10, 11, 12, 13, 14, 15, 16, 17, 18, 19, 20, 21, 22, 23, 24, 25, 26, 27, 28, 29, 30, 31, 32, 33, 34, 35, 36, 37] [] [(0, 130, 16777216), (1, 131, 1361129467683753853853498429727072845824), (2, 132, 2722258935367507707706996859454145691648), (4, 133, 5444517870735015415413993718908299771904), (4, 134, 5444517870735015415413993718908295577600), (20, 135, 27222589353675077077069968594541456924672), (36, 136, 49000660836615138738725943470174622449664), (76, 137, 103445839543965292892865880659257536282624), (132, 138, 179669089734255508708661792723973615648768), (256, 139, 348449143727040986586495598010130656919552), (256, 140, 348449143727040986586495598010130652725248), (1280, 141, 1742245718635204932932477990050653242916864), (2304, 142, 3136042293543368879278460382091175836778496), (4864, 143, 6620533730813778745143416362192482322087936), (8452, 144, 11504266260863087572769768728053219692904448), (16388, 145, 22306189716401358156951132266367269797363712), (33024, 146, 44601490397061246283071436545296723011960832), (65536, 147, 89202980794122492566142873090593446023921672), (196608, 148, 267608942382367477698428619271780338071764992), (327680, 149, 446014903970612462830714365452967230119608320), (524288, 150, 713623846352979940529142984724747568199761920), (524288, 151, 713623846352979940529142984724747568195567616), (2621440, 152, 3568119231764899702645714923623737840957128704), (4718592, 153, 6422614617176819464762286862522728113722359808), (9961472, 154, 13558853080706618870053716709770203795636092928), (17367040, 155, 23638789910442460530027861369007263196339240960), (33619968, 156, 45761129147384838686431293895474437810271813632), (67633152, 157, 91343852333181432387730302044767688728495783936), (134217728, 158, 182687704666362864775460604089535377456991567880), (402653184, 159, 548063113999088594326381812268606132370974703616), (671088640, 160, 913438523331814323877303020447676887284957839360), (1073741824, 161, 1461501637330902918203684832716283019655940931584), (1073741824, 162, 1461501637330902918203684832716283019655936737280), (5368709120, 163, 7307508186654514591018424163581415098279662723072), (9663676416, 164, 13153514735978126263833163494446547176903392886784), (20401094656, 165, 27768531109287155445870011821609377373462718316544), (35567697920, 166, 48412241736586159165497060083726875026102765486080), (68853694464, 167, 93718792493844149629811289897931648635436674318336)] (by kernel_rfl) (by kernel_rfl) (by kernel_rfl) rfl (by kernel_rfl) (by kernel_rfl) (fun _ _ d _ _ h => by cases d <;> exact h) ?_
                          (first | (refine seq_read (fun _ => True) (fun _ _ => trivial) _ (v := ?_) rfl rfl (by rfl) ?_ ?_; rotate_left; (· intro w' hF; go_simp; (try with_reducible rfl)); simp only [Act.put, List.setIfInBounds_toArray, List.set_cons_zero, List.set_cons_succ]) | (refine seq_skip _ rfl rfl (by rfl) ?_; simp only [Act.put, List.setIfInBounds_toArray, List.set_cons_zero, List.set_cons_succ]))
                          (first | (refine seq_read (fun _ => True) (fun _ _ => trivial) _ (v := ?_) rfl rfl (by rfl) ?_ ?_; rotate_left; (· intro w' hF; go_simp; (try with_reducible rfl)); simp only [Act.put, List.setIfInBounds_toArray, List.set_cons_zero, List.set_cons_succ]) | (refine seq_skip _ rfl rfl (by rfl) ?_; simp only [Act.put, List.setIfInBounds_toArray, List.set_cons_zero, List.set_cons_succ]))
                          (first | (refine seq_read (fun _ => True) (fun _ _ => trivial) _ (v := ?_) rfl rfl (by rfl) ?_ ?_; rotate_left; (· intro w' hF; go_simp; (try with_reducible rfl)); simp only [Act.put, List.setIfInBounds_toArray, List.set_cons_zero, List.set_cons_succ]) | (refine seq_skip _ rfl rfl (by rfl) ?_; simp only [Act.put, List.setIfInBounds_toArray, List.set_cons_zero, List.set_cons_succ]))
                          refine seq_read (fun w' => w'.heap[g22]? = some (.cells (cellsOf xs).toArray 58 (0, 0))) (fun w' e => (F9.out w' (Ext.trans (Ext.refl _).drew e)).1) _ (v := .agg (cellsOf xs).toArray) rfl rfl (by rfl) (fun w' hF => exec_load_row rfl rfl hF rfl rfl (by rw [S_x]; rfl)) ?_
                          simp only [Act.put, List.setIfInBounds_toArray, List.set_cons_zero, List.set_cons_succ]
                          (first | (refine seq_read (fun _ => True) (fun _ _ => trivial) _ (v := ?_) rfl rfl (by rfl) ?_ ?_; rotate_left; (· intro w' hF; go_simp; (try with_reducible rfl)); simp only [Act.put, List.setIfInBounds_toArray, List.set_cons_zero, List.set_cons_succ]) | (refine seq_skip _ rfl rfl (by rfl) ?_; simp only [Act.put, List.setIfInBounds_toArray, List.set_cons_zero, List.set_cons_succ]))
                          (first | (refine seq_read (fun _ => True) (fun _ _ => trivial) _ (v := ?_) rfl rfl (by rfl) ?_ ?_; rotate_left; (· intro w' hF; go_simp; (try with_reducible rfl)); simp only [Act.put, List.setIfInBounds_toArray, List.set_cons_zero, List.set_cons_succ]) | (refine seq_skip _ rfl rfl (by rfl) ?_; simp only [Act.put, List.setIfInBounds_toArray, List.set_cons_zero, List.set_cons_succ]))
                          refine seq_read (fun w' => ∀ q_ v, (cellsOf ya)[q_]? = some v → w'.cell? ⟨g12, (k * 64) + q_, none⟩ = some v) (fun w' e => (F9.out w' (Ext.trans (Ext.refl _).drew e)).2.1) _ (v := .agg (cellsOf ya).toArray) rfl rfl (by rfl) (fun w' hF => exec_load_mid rfl rfl hF rfl rfl (by rw [C_a]; rfl)) ?_
                          simp only [Act.put, List.setIfInBounds_toArray, List.set_cons_zero, List.set_cons_succ]
                          refine seq_read (fun _ => True) (fun _ _ => trivial) _ (v := .bool false) rfl rfl (by rfl) (fun w' _ => exec_neq_sector (xs := xs) (ys := ya) Q1.out L_x L_a rfl rfl rfl) ?_
                          simp only [Act.put, List.setIfInBounds_toArray, List.set_cons_zero, List.set_cons_succ]
                          (first | (refine seq_read (fun _ => True) (fun _ _ => trivial) _ (v := ?_) rfl rfl (by rfl) ?_ ?_; rotate_left; (· intro w' hF; go_simp; (try with_reducible rfl)); simp only [Act.put, List.setIfInBounds_toArray, List.set_cons_zero, List.set_cons_succ]) | (refine seq_skip _ rfl rfl (by rfl) ?_; simp only [Act.put, List.setIfInBounds_toArray, List.set_cons_zero, List.set_cons_succ]))
                          (first | (refine seq_read (fun _ => True) (fun _ _ => trivial) _ (v := ?_) rfl rfl (by rfl) ?_ ?_; rotate_left; (· intro w' hF; go_simp; (try with_reducible rfl)); simp only [Act.put, List.setIfInBounds_toArray, List.set_cons_zero, List.set_cons_succ]) | (refine seq_skip _ rfl rfl (by rfl) ?_; simp only [Act.put, List.setIfInBounds_toArray, List.set_cons_zero, List.set_cons_succ]))
                          (first | (refine seq_read (fun _ => True) (fun _ _ => trivial) _ (v := ?_) rfl rfl (by rfl) ?_ ?_; rotate_left; (· intro w' hF; go_simp; (try with_reducible rfl)); simp only [Act.put, List.setIfInBounds_toArray, List.set_cons_zero, List.set_cons_succ]) | (refine seq_skip _ rfl rfl (by rfl) ?_; simp only [Act.put, List.setIfInBounds_toArray, List.set_cons_zero, List.set_cons_succ]))
                          (first | (refine seq_read (fun _ => True) (fun _ _ => trivial) _ (v := ?_) rfl rfl (by rfl) ?_ ?_; rotate_left; (· intro w' hF; go_simp; (try with_reducible rfl)); simp only [Act.put, List.setIfInBounds_toArray, List.set_cons_zero, List.set_cons_succ]) | (refine seq_skip _ rfl rfl (by rfl) ?_; simp only [Act.put, List.setIfInBounds_toArray, List.set_cons_zero, List.set_cons_succ]))
                          (first | (refine seq_read (fun _ => True) (fun _ _ => trivial) _ (v := ?_) rfl rfl (by rfl) ?_ ?_; rotate_left; (· intro w' hF; go_simp; (try with_reducible rfl)); simp only [Act.put, List.setIfInBounds_toArray, List.set_cons_zero, List.set_cons_succ]) | (refine seq_skip _ rfl rfl (by rfl) ?_; simp only [Act.put, List.setIfInBounds_toArray, List.set_cons_zero, List.set_cons_succ]))
                          (first | (refine seq_read (fun _ => True) (fun _ _ => trivial) _ (v := ?_) rfl rfl (by rfl) ?_ ?_; rotate_left; (· intro w' hF; go_simp; (try with_reducible rfl)); simp only [Act.put, List.setIfInBounds_toArray, List.set_cons_zero, List.set_cons_succ]) | (refine seq_skip _ rfl rfl (by rfl) ?_; simp only [Act.put, List.setIfInBounds_toArray, List.set_cons_zero, List.set_cons_succ]))
                          (first | (refine seq_read (fun _ => True) (fun _ _ => trivial) _ (v := ?_) rfl rfl (by rfl) ?_ ?_; rotate_left; (· intro w' hF; go_simp; (try with_reducible rfl)); simp only [Act.put, List.setIfInBounds_toArray, List.set_cons_zero, List.set_cons_succ]) | (refine seq_skip _ rfl rfl (by rfl) ?_; simp only [Act.put, List.setIfInBounds_toArray, List.set_cons_zero, List.set_cons_succ]))
                          (first | (refine seq_read (fun _ => True) (fun _ _ => trivial) _ (v := ?_) rfl rfl (by rfl) ?_ ?_; rotate_left; (· intro w' hF; go_simp; (try with_reducible rfl)); simp only [Act.put, List.setIfInBounds_toArray, List.set_cons_zero, List.set_cons_succ]) | (refine seq_skip _ rfl rfl (by rfl) ?_; simp only [Act.put, List.setIfInBounds_toArray, List.set_cons_zero, List.set_cons_succ]))
                          (first | (refine seq_read (fun _ => True) (fun _ _ => trivial) _ (v := ?_) rfl rfl (by rfl) ?_ ?_; rotate_left; (· intro w' hF; go_simp; (try with_reducible rfl)); simp only [Act.put, List.setIfInBounds_toArray, List.set_cons_zero, List.set_cons_succ]) | (refine seq_skip _ rfl rfl (by rfl) ?_; simp only [Act.put, List.setIfInBounds_toArray, List.set_cons_zero, List.set_cons_succ]))
                          (first | (refine seq_read (fun _ => True) (fun _ _ => trivial) _ (v := ?_) rfl rfl (by rfl) ?_ ?_; rotate_left; (· intro w' hF; go_simp; (try with_reducible rfl)); simp only [Act.put, List.setIfInBounds_toArray, List.set_cons_zero, List.set_cons_succ]) | (refine seq_skip _ rfl rfl (by rfl) ?_; simp only [Act.put, List.setIfInBounds_toArray, List.set_cons_zero, List.set_cons_succ]))
                          (first | (refine seq_read (fun _ => True) (fun _ _ => trivial) _ (v := ?_) rfl rfl (by rfl) ?_ ?_; rotate_left; (· intro w' hF; go_simp; (try with_reducible rfl)); simp only [Act.put, List.setIfInBounds_toArray, List.set_cons_zero, List.set_cons_succ]) | (refine seq_skip _ rfl rfl (by rfl) ?_; simp only [Act.put, List.setIfInBounds_toArray, List.set_cons_zero, List.set_cons_succ]))
                          (first | (refine seq_read (fun _ => True) (fun _ _ => trivial) _ (v := ?_) rfl rfl (by rfl) ?_ ?_; rotate_left; (· intro w' hF; go_simp; (try with_reducible rfl)); simp only [Act.put, List.setIfInBounds_toArray, List.set_cons_zero, List.set_cons_succ]) | (refine seq_skip _ rfl rfl (by rfl) ?_; simp only [Act.put, List.setIfInBounds_toArray, List.set_cons_zero, List.set_cons_succ]))
                          (first | (refine seq_read (fun _ => True) (fun _ _ => trivial) _ (v := ?_) rfl rfl (by rfl) ?_ ?_; rotate_left; (· intro w' hF; go_simp; (try with_reducible rfl)); simp only [Act.put, List.setIfInBounds_toArray, List.set_cons_zero, List.set_cons_succ]) | (refine seq_skip _ rfl rfl (by rfl) ?_; simp only [Act.put, List.setIfInBounds_toArray, List.set_cons_zero, List.set_cons_succ]))
                          (first | (refine seq_read (fun _ => True) (fun _ _ => trivial) _ (v := ?_) rfl rfl (by rfl) ?_ ?_; rotate_left; (· intro w' hF; go_simp; (try with_reducible rfl)); simp only [Act.put, List.setIfInBounds_toArray, List.set_cons_zero, List.set_cons_succ]) | (refine seq_skip _ rfl rfl (by rfl) ?_; simp only [Act.put, List.setIfInBounds_toArray, List.set_cons_zero, List.set_cons_succ]))
                          (first | (refine seq_read (fun _ => True) (fun _ _ => trivial) _ (v := ?_) rfl rfl (by rfl) ?_ ?_; rotate_left; (· intro w' hF; go_simp; (try with_reducible rfl)); simp only [Act.put, List.setIfInBounds_toArray, List.set_cons_zero, List.set_cons_succ]) | (refine seq_skip _ rfl rfl (by rfl) ?_; simp only [Act.put, List.setIfInBounds_toArray, List.set_cons_zero, List.set_cons_succ]))
                          (first | (refine seq_read (fun _ => True) (fun _ _ => trivial) _ (v := ?_) rfl rfl (by rfl) ?_ ?_; rotate_left; (· intro w' hF; go_simp; (try with_reducible rfl)); simp only [Act.put, List.setIfInBounds_toArray, List.set_cons_zero, List.set_cons_succ]) | (refine seq_skip _ rfl rfl (by rfl) ?_; simp only [Act.put, List.setIfInBounds_toArray, List.set_cons_zero, List.set_cons_succ]))
                          (first | (refine seq_read (fun _ => True) (fun _ _ => trivial) _ (v := ?_) rfl rfl (by rfl) ?_ ?_; rotate_left; (· intro w' hF; go_simp; (try with_reducible rfl)); simp only [Act.put, List.setIfInBounds_toArray, List.set_cons_zero, List.set_cons_succ]) | (refine seq_skip _ rfl rfl (by rfl) ?_; simp only [Act.put, List.setIfInBounds_toArray, List.set_cons_zero, List.set_cons_succ]))
                          (first | (refine seq_read (fun _ => True) (fun _ _ => trivial) _ (v := ?_) rfl rfl (by rfl) ?_ ?_; rotate_left; (· intro w' hF; go_simp; (try with_reducible rfl)); simp only [Act.put, List.setIfInBounds_toArray, List.set_cons_zero, List.set_cons_succ]) | (refine seq_skip _ rfl rfl (by rfl) ?_; simp only [Act.put, List.setIfInBounds_toArray, List.set_cons_zero, List.set_cons_succ]))
                          (first | (refine seq_read (fun _ => True) (fun _ _ => trivial) _ (v := ?_) rfl rfl (by rfl) ?_ ?_; rotate_left; (· intro w' hF; go_simp; (try with_reducible rfl)); simp only [Act.put, List.setIfInBounds_toArray, List.set_cons_zero, List.set_cons_succ]) | (refine seq_skip _ rfl rfl (by rfl) ?_; simp only [Act.put, List.setIfInBounds_toArray, List.set_cons_zero, List.set_cons_succ]))
                          (first | (refine seq_read (fun _ => True) (fun _ _ => trivial) _ (v := ?_) rfl rfl (by rfl) ?_ ?_; rotate_left; (· intro w' hF; go_simp; (try with_reducible rfl)); simp only [Act.put, List.setIfInBounds_toArray, List.set_cons_zero, List.set_cons_succ]) | (refine seq_skip _ rfl rfl (by rfl) ?_; simp only [Act.put, List.setIfInBounds_toArray, List.set_cons_zero, List.set_cons_succ]))
                          (first | (refine seq_read (fun _ => True) (fun _ _ => trivial) _ (v := ?_) rfl rfl (by rfl) ?_ ?_; rotate_left; (· intro w' hF; go_simp; (try with_reducible rfl)); simp only [Act.put, List.setIfInBounds_toArray, List.set_cons_zero, List.set_cons_succ]) | (refine seq_skip _ rfl rfl (by rfl) ?_; simp only [Act.put, List.setIfInBounds_toArray, List.set_cons_zero, List.set_cons_succ]))
                          (first | (refine seq_read (fun _ => True) (fun _ _ => trivial) _ (v := ?_) rfl rfl (by rfl) ?_ ?_; rotate_left; (· intro w' hF; go_simp; (try with_reducible rfl)); simp only [Act.put, List.setIfInBounds_toArray, List.set_cons_zero, List.set_cons_succ]) | (refine seq_skip _ rfl rfl (by rfl) ?_; simp only [Act.put, List.setIfInBounds_toArray, List.set_cons_zero, List.set_cons_succ]))
                          (first | (refine seq_read (fun _ => True) (fun _ _ => trivial) _ (v := ?_) rfl rfl (by rfl) ?_ ?_; rotate_left; (· intro w' hF; go_simp; (try with_reducible rfl)); simp only [Act.put, List.setIfInBounds_toArray, List.set_cons_zero, List.set_cons_succ]) | (refine seq_skip _ rfl rfl (by rfl) ?_; simp only [Act.put, List.setIfInBounds_toArray, List.set_cons_zero, List.set_cons_succ]))
                          refine seq_read (fun w' => w'.heap[g22]? = some (.cells (cellsOf xs).toArray 58 (0, 0))) (fun w' e => (F9.out w' (Ext.trans (Ext.refl _).drew e)).1) _ (v := .agg (cellsOf xs).toArray) rfl rfl (by rfl) (fun w' hF => exec_load_row rfl rfl hF rfl rfl (by rw [S_x]; rfl)) ?_
                          simp only [Act.put, List.setIfInBounds_toArray, List.set_cons_zero, List.set_cons_succ]
                          (first | (refine seq_read (fun _ => True) (fun _ _ => trivial) _ (v := ?_) rfl rfl (by rfl) ?_ ?_; rotate_left; (· intro w' hF; go_simp; (try with_reducible rfl)); simp only [Act.put, List.setIfInBounds_toArray, List.set_cons_zero, List.set_cons_succ]) | (refine seq_skip _ rfl rfl (by rfl) ?_; simp only [Act.put, List.setIfInBounds_toArray, List.set_cons_zero, List.set_cons_succ]))
                          (first | (refine seq_read (fun _ => True) (fun _ _ => trivial) _ (v := ?_) rfl rfl (by rfl) ?_ ?_; rotate_left; (· intro w' hF; go_simp; (try with_reducible rfl)); simp only [Act.put, List.setIfInBounds_toArray, List.set_cons_zero, List.set_cons_succ]) | (refine seq_skip _ rfl rfl (by rfl) ?_; simp only [Act.put, List.setIfInBounds_toArray, List.set_cons_zero, List.set_cons_succ]))
                          refine seq_read (fun w' => ∀ q_ v, (cellsOf ya)[q_]? = some v → w'.cell? ⟨g12, (k * 64) + q_, none⟩ = some v) (fun w' e => (F9.out w' (Ext.trans (Ext.refl _).drew e)).2.1) _ (v := .agg (cellsOf ya).toArray) rfl rfl (by rfl) (fun w' hF => exec_load_mid rfl rfl hF rfl rfl (by rw [C_a]; rfl)) ?_
                          simp only [Act.put, List.setIfInBounds_toArray, List.set_cons_zero, List.set_cons_succ]
                          refine seq_read (fun _ => True) (fun _ _ => trivial) _ (v := .bool false) rfl rfl (by rfl) (fun w' _ => exec_neq_sector (xs := xs) (ys := ya) Q1.out L_x L_a rfl rfl rfl) ?_
                          simp only [Act.put, List.setIfInBounds_toArray, List.set_cons_zero, List.set_cons_succ]
                          (first | (refine seq_read (fun _ => True) (fun _ _ => trivial) _ (v := ?_) rfl rfl (by rfl) ?_ ?_; rotate_left; (· intro w' hF; go_simp; (try with_reducible rfl)); simp only [Act.put, List.setIfInBounds_toArray, List.set_cons_zero, List.set_cons_succ]) | (refine seq_skip _ rfl rfl (by rfl) ?_; simp only [Act.put, List.setIfInBounds_toArray, List.set_cons_zero, List.set_cons_succ]))
                          (first | (refine seq_read (fun _ => True) (fun _ _ => trivial) _ (v := ?_) rfl rfl (by rfl) ?_ ?_; rotate_left; (· intro w' hF; go_simp; (try with_reducible rfl)); simp only [Act.put, List.setIfInBounds_toArray, List.set_cons_zero, List.set_cons_succ]) | (refine seq_skip _ rfl rfl (by rfl) ?_; simp only [Act.put, List.setIfInBounds_toArray, List.set_cons_zero, List.set_cons_succ]))
                          refine seq_done ?_
                          have X2 : Hid (Ext w6 w9.drew) := X9.out.drew
                          go_wp2_with fail
                          go_meet
                          exact ⟨rfl, X2.out⟩
                        · exact absurd (T2 rfl) (by simp)
                        · exact absurd (T2 rfl) (by simp)
                        · skip
                          refine wp_region_seq (R := Ext) Ext.refl (fun _ _ _ => Ext.trans) [0, 1, 2, 3, 4, 5, 6, 7, 8, 9, 10, 11, 12, 13, 14, 15, 16, 17, 18, 19, 20, 21, 22, 23, 24, 25, 26, 27, 28, 29, 30, 31, 32, 33, 34, 35, 36, 37] [] [(0, 130, 16777216), (1, 131, 1361129467683753853853498429727072845824), (2, 132, 2722258935367507707706996859454145691648), (4, 133, 5444517870735015415413993718908299771904), (4, 134, 5444517870735015415413993718908295577600), (20, 135, 27222589353675077077069968594541456924672), (36, 136, 49000660836615138738725943470174622449664), (76, 137, 103445839543965292892865880659257536282624), (132, 138, 179669089734255508708661792723973615648768), (256, 139, 348449143727040986586495598010130656919552), (256, 140, 348449143727040986586495598010130652725248), (1280, 141, 1742245718635204932932477990050653242916864), (2304, 142, 3136042293543368879278460382091175836778496), (4864, 143, 6620533730813778745143416362192482322087936), (8452, 144, 11504266260863087572769768728053219692904448), (16388, 145, 22306189716401358156951132266367269797363712), (33024, 146, 44601490397061246283071436545296723011960832), (65536, 147, 89202980794122492566142873090593446023921672), (196608, 148, 267608942382367477698428619271780338071764992), (327680, 149, 446014903970612462830714365452967230119608320), (524288, 150, 713623846352979940529142984724747568199761920), (524288, 151, 713623846352979940529142984724747568195567616), (2621440, 152, 3568119231764899702645714923623737840957128704), (4718592, 153, 6422614617176819464762286862522728113722359808), (9961472, 154, 13558853080706618870053716709770203795636092928), (17367040, 155, 23638789910442460530027861369007263196339240960), (33619968, 156, 45761129147384838686431293895474437810271813632), (67633152, 157, 91343852333181432387730302044767688728495783936), (134217728, 158, 182687704666362864775460604089535377456991567880), (402653184, 159, 548063113999088594326381812268606132370974703616), (671088640, 160, 913438523331814323877303020447676887284957839360), (1073741824, 161, 1461501637330902918203684832716283019655940931584), (1073741824, 162, 1461501637330902918203684832716283019655936737280), (5368709120, 163, 7307508186654514591018424163581415098279662723072), (9663676416, 164, 13153514735978126263833163494446547176903392886784), (20401094656, 165, 27768531109287155445870011821609377373462718316544), (35567697920, 166, 48412241736586159165497060083726875026102765486080), (68853694464, 167, 93718792493844149629811289897931648635436674318336)] (by kernel_rfl) (by kernel_rfl) (by kernel_rfl) rfl (by kernel_rfl) (by kernel_rfl) (fun _ _ d _ _ h => by cases d <;> exact h) ?_
                          (first | (refine seq_read (fun _ => True) (fun _ _ => trivial) _ (v := ?_) rfl rfl (by rfl) ?_ ?_; rotate_left; (· intro w' hF; go_simp; (try with_reducible rfl)); simp only [Act.put, List.setIfInBounds_toArray, List.set_cons_zero, List.set_cons_succ]) | (refine seq_skip _ rfl rfl (by rfl) ?_; simp only [Act.put, List.setIfInBounds_toArray, List.set_cons_zero, List.set_cons_succ]))
                          (first | (refine seq_read (fun _ => True) (fun _ _ => trivial) _ (v := ?_) rfl rfl (by rfl) ?_ ?_; rotate_left; (· intro w' hF; go_simp; (try with_reducible rfl)); simp only [Act.put, List.setIfInBounds_toArray, List.set_cons_zero, List.set_cons_succ]) | (refine seq_skip _ rfl rfl (by rfl) ?_; simp only [Act.put, List.setIfInBounds_toArray, List.set_cons_zero, List.set_cons_succ]))
                          (first | (refine seq_read (fun _ => True) (fun _ _ => trivial) _ (v := ?_) rfl rfl (by rfl) ?_ ?_; rotate_left; (· intro w' hF; go_simp; (try with_reducible rfl)); simp only [Act.put, List.setIfInBounds_toArray, List.set_cons_zero, List.set_cons_succ]) | (refine seq_skip _ rfl rfl (by rfl) ?_; simp only [Act.put, List.setIfInBounds_toArray, List.set_cons_zero, List.set_cons_succ]))
                          refine seq_read (fun w' => w'.heap[g22]? = some (.cells (cellsOf xs).toArray 58 (0, 0))) (fun w' e => (F9.out w' (Ext.trans (Ext.refl _).drew e)).1) _ (v := .agg (cellsOf xs).toArray) rfl rfl (by rfl) (fun w' hF => exec_load_row rfl rfl hF rfl rfl (by rw [S_x]; rfl)) ?_
                          simp only [Act.put, List.setIfInBounds_toArray, List.set_cons_zero, List.set_cons_succ]
                          (first | (refine seq_read (fun _ => True) (fun _ _ => trivial) _ (v := ?_) rfl rfl (by rfl) ?_ ?_; rotate_left; (· intro w' hF; go_simp; (try with_reducible rfl)); simp only [Act.put, List.setIfInBounds_toArray, List.set_cons_zero, List.set_cons_succ]) | (refine seq_skip _ rfl rfl (by rfl) ?_; simp only [Act.put, List.setIfInBounds_toArray, List.set_cons_zero, List.set_cons_succ]))
                          (first | (refine seq_read (fun _ => True) (fun _ _ => trivial) _ (v := ?_) rfl rfl (by rfl) ?_ ?_; rotate_left; (· intro w' hF; go_simp; (try with_reducible rfl)); simp only [Act.put, List.setIfInBounds_toArray, List.set_cons_zero, List.set_cons_succ]) | (refine seq_skip _ rfl rfl (by rfl) ?_; simp only [Act.put, List.setIfInBounds_toArray, List.set_cons_zero, List.set_cons_succ]))
                          refine seq_read (fun w' => ∀ q_ v, (cellsOf ya)[q_]? = some v → w'.cell? ⟨g12, (k * 64) + q_, none⟩ = some v) (fun w' e => (F9.out w' (Ext.trans (Ext.refl _).drew e)).2.1) _ (v := .agg (cellsOf ya).toArray) rfl rfl (by rfl) (fun w' hF => exec_load_mid rfl rfl hF rfl rfl (by rw [C_a]; rfl)) ?_
                          simp only [Act.put, List.setIfInBounds_toArray, List.set_cons_zero, List.set_cons_succ]
                          refine seq_read (fun _ => True) (fun _ _ => trivial) _ (v := .bool false) rfl rfl (by rfl) (fun w' _ => exec_neq_sector (xs := xs) (ys := ya) Q1.out L_x L_a rfl rfl rfl) ?_
                          simp only [Act.put, List.setIfInBounds_toArray, List.set_cons_zero, List.set_cons_succ]
                          (first | (refine seq_read (fun _ => True) (fun _ _ => trivial) _ (v := ?_) rfl rfl (by rfl) ?_ ?_; rotate_left; (· intro w' hF; go_simp; (try with_reducible rfl)); simp only [Act.put, List.setIfInBounds_toArray, List.set_cons_zero, List.set_cons_succ]) | (refine seq_skip _ rfl rfl (by rfl) ?_; simp only [Act.put, List.setIfInBounds_toArray, List.set_cons_zero, List.set_cons_succ]))
                          (first | (refine seq_read (fun _ => True) (fun _ _ => trivial) _ (v := ?_) rfl rfl (by rfl) ?_ ?_; rotate_left; (· intro w' hF; go_simp; (try with_reducible rfl)); simp only [Act.put, List.setIfInBounds_toArray, List.set_cons_zero, List.set_cons_succ]) | (refine seq_skip _ rfl rfl (by rfl) ?_; simp only [Act.put, List.setIfInBounds_toArray, List.set_cons_zero, List.set_cons_succ]))
                          (first | (refine seq_read (fun _ => True) (fun _ _ => trivial) _ (v := ?_) rfl rfl (by rfl) ?_ ?_; rotate_left; (· intro w' hF; go_simp; (try with_reducible rfl)); simp only [Act.put, List.setIfInBounds_toArray, List.set_cons_zero, List.set_cons_succ]) | (refine seq_skip _ rfl rfl (by rfl) ?_; simp only [Act.put, List.setIfInBounds_toArray, List.set_cons_zero, List.set_cons_succ]))
                          (first | (refine seq_read (fun _ => True) (fun _ _ => trivial) _ (v := ?_) rfl rfl (by rfl) ?_ ?_; rotate_left; (· intro w' hF; go_simp; (try with_reducible rfl)); simp only [Act.put, List.setIfInBounds_toArray, List.set_cons_zero, List.set_cons_succ]) | (refine seq_skip _ rfl rfl (by rfl) ?_; simp only [Act.put, List.setIfInBounds_toArray, List.set_cons_zero, List.set_cons_succ]))
                          (first | (refine seq_read (fun _ => True) (fun _ _ => trivial) _ (v := ?_) rfl rfl (by rfl) ?_ ?_; rotate_left; (· intro w' hF; go_simp; (try with_reducible rfl)); simp only [Act.put, List.setIfInBounds_toArray, List.set_cons_zero, List.set_cons_succ]) | (refine seq_skip _ rfl rfl (by rfl) ?_; simp only [Act.put, List.setIfInBounds_toArray, List.set_cons_zero, List.set_cons_succ]))
                          (first | (refine seq_read (fun _ => True) (fun _ _ => trivial) _ (v := ?_) rfl rfl (by rfl) ?_ ?_; rotate_left; (· intro w' hF; go_simp; (try with_reducible rfl)); simp only [Act.put, List.setIfInBounds_toArray, List.set_cons_zero, List.set_cons_succ]) | (refine seq_skip _ rfl rfl (by rfl) ?_; simp only [Act.put, List.setIfInBounds_toArray, List.set_cons_zero, List.set_cons_succ]))
                          (first | (refine seq_read (fun _ => True) (fun _ _ => trivial) _ (v := ?_) rfl rfl (by rfl) ?_ ?_; rotate_left; (· intro w' hF; go_simp; (try with_reducible rfl)); simp only [Act.put, List.setIfInBounds_toArray, List.set_cons_zero, List.set_cons_succ]) | (refine seq_skip _ rfl rfl (by rfl) ?_; simp only [Act.put, List.setIfInBounds_toArray, List.set_cons_zero, List.set_cons_succ]))
                          (first | (refine seq_read (fun _ => True) (fun _ _ => trivial) _ (v := ?_) rfl rfl (by rfl) ?_ ?_; rotate_left; (· intro w' hF; go_simp; (try with_reducible rfl)); simp only [Act.put, List.setIfInBounds_toArray, List.set_cons_zero, List.set_cons_succ]) | (refine seq_skip _ rfl rfl (by rfl) ?_; simp only [Act.put, List.setIfInBounds_toArray, List.set_cons_zero, List.set_cons_succ]))
                          (first | (refine seq_read (fun _ => True) (fun _ _ => trivial) _ (v := ?_) rfl rfl (by rfl) ?_ ?_; rotate_left; (· intro w' hF; go_simp; (try with_reducible rfl)); simp only [Act.put, List.setIfInBounds_toArray, List.set_cons_zero, List.set_cons_succ]) | (refine seq_skip _ rfl rfl (by rfl) ?_; simp only [Act.put, List.setIfInBounds_toArray, List.set_cons_zero, List.set_cons_succ]))
                          (first | (refine seq_read (fun _ => True) (fun _ _ => trivial) _ (v := ?_) rfl rfl (by rfl) ?_ ?_; rotate_left; (· intro w' hF; go_simp; (try with_reducible rfl)); simp only [Act.put, List.setIfInBounds_toArray, List.set_cons_zero, List.set_cons_succ]) | (refine seq_skip _ rfl rfl (by rfl) ?_; simp only [Act.put, List.setIfInBounds_toArray, List.set_cons_zero, List.set_cons_succ]))
                          (first | (refine seq_read (fun _ => True) (fun _ _ => trivial) _ (v := ?_) rfl rfl (by rfl) ?_ ?_; rotate_left; (· intro w' hF; go_simp; (try with_reducible rfl)); simp only [Act.put, List.setIfInBounds_toArray, List.set_cons_zero, List.set_cons_succ]) | (refine seq_skip _ rfl rfl (by rfl) ?_; simp only [Act.put, List.setIfInBounds_toArray, List.set_cons_zero, List.set_cons_succ]))
                          (first | (refine seq_read (fun _ => True) (fun _ _ => trivial) _ (v := ?_) rfl rfl (by rfl) ?_ ?_; rotate_left; (· intro w' hF; go_simp; (try with_reducible rfl)); simp only [Act.put, List.setIfInBounds_toArray, List.set_cons_zero, List.set_cons_succ]) | (refine seq_skip _ rfl rfl (by rfl) ?_; simp only [Act.put, List.setIfInBounds_toArray, List.set_cons_zero, List.set_cons_succ]))
                          (first | (refine seq_read (fun _ => True) (fun _ _ => trivial) _ (v := ?_) rfl rfl (by rfl) ?_ ?_; rotate_left; (· intro w' hF; go_simp; (try with_reducible rfl)); simp only [Act.put, List.setIfInBounds_toArray, List.set_cons_zero, List.set_cons_succ]) | (refine seq_skip _ rfl rfl (by rfl) ?_; simp only [Act.put, List.setIfInBounds_toArray, List.set_cons_zero, List.set_cons_succ]))
                          (first | (refine seq_read (fun _ => True) (fun _ _ => trivial) _ (v := ?_) rfl rfl (by rfl) ?_ ?_; rotate_left; (· intro w' hF; go_simp; (try with_reducible rfl)); simp only [Act.put, List.setIfInBounds_toArray, List.set_cons_zero, List.set_cons_succ]) | (refine seq_skip _ rfl rfl (by rfl) ?_; simp only [Act.put, List.setIfInBounds_toArray, List.set_cons_zero, List.set_cons_succ]))
                          (first | (refine seq_read (fun _ => True) (fun _ _ => trivial) _ (v := ?_) rfl rfl (by rfl) ?_ ?_; rotate_left; (· intro w' hF; go_simp; (try with_reducible rfl)); simp only [Act.put, List.setIfInBounds_toArray, List.set_cons_zero, List.set_cons_succ]) | (refine seq_skip _ rfl rfl (by rfl) ?_; simp only [Act.put, List.setIfInBounds_toArray, List.set_cons_zero, List.set_cons_succ]))
                          (first | (refine seq_read (fun _ => True) (fun _ _ => trivial) _ (v := ?_) rfl rfl (by rfl) ?_ ?_; rotate_left; (· intro w' hF; go_simp; (try with_reducible rfl)); simp only [Act.put, List.setIfInBounds_toArray, List.set_cons_zero, List.set_cons_succ]) | (refine seq_skip _ rfl rfl (by rfl) ?_; simp only [Act.put, List.setIfInBounds_toArray, List.set_cons_zero, List.set_cons_succ]))
                          (first | (refine seq_read (fun _ => True) (fun _ _ => trivial) _ (v := ?_) rfl rfl (by rfl) ?_ ?_; rotate_left; (· intro w' hF; go_simp; (try with_reducible rfl)); simp only [Act.put, List.setIfInBounds_toArray, List.set_cons_zero, List.set_cons_succ]) | (refine seq_skip _ rfl rfl (by rfl) ?_; simp only [Act.put, List.setIfInBounds_toArray, List.set_cons_zero, List.set_cons_succ]))
                          (first | (refine seq_read (fun _ => True) (fun _ _ => trivial) _ (v := ?_) rfl rfl (by rfl) ?_ ?_; rotate_left; (· intro w' hF; go_simp; (try with_reducible rfl)); simp only [Act.put, List.setIfInBounds_toArray, List.set_cons_zero, List.set_cons_succ]) | (refine seq_skip _ rfl rfl (by rfl) ?_; simp only [Act.put, List.setIfInBounds_toArray, List.set_cons_zero, List.set_cons_succ]))
                          (first | (refine seq_read (fun _ => True) (fun _ _ => trivial) _ (v := ?_) rfl rfl (by rfl) ?_ ?_; rotate_left; (· intro w' hF; go_simp; (try with_reducible rfl)); simp only [Act.put, List.setIfInBounds_toArray, List.set_cons_zero, List.set_cons_succ]) | (refine seq_skip _ rfl rfl (by rfl) ?_; simp only [Act.put, List.setIfInBounds_toArray, List.set_cons_zero, List.set_cons_succ]))
                          (first | (refine seq_read (fun _ => True) (fun _ _ => trivial) _ (v := ?_) rfl rfl (by rfl) ?_ ?_; rotate_left; (· intro w' hF; go_simp; (try with_reducible rfl)); simp only [Act.put, List.setIfInBounds_toArray, List.set_cons_zero, List.set_cons_succ]) | (refine seq_skip _ rfl rfl (by rfl) ?_; simp only [Act.put, List.setIfInBounds_toArray, List.set_cons_zero, List.set_cons_succ]))
                          (first | (refine seq_read (fun _ => True) (fun _ _ => trivial) _ (v := ?_) rfl rfl (by rfl) ?_ ?_; rotate_left; (· intro w' hF; go_simp; (try with_reducible rfl)); simp only [Act.put, List.setIfInBounds_toArray, List.set_cons_zero, List.set_cons_succ]) | (refine seq_skip _ rfl rfl (by rfl) ?_; simp only [Act.put, List.setIfInBounds_toArray, List.set_cons_zero, List.set_cons_succ]))
                          (first | (refine seq_read (fun _ => True) (fun _ _ => trivial) _ (v := ?_) rfl rfl (by rfl) ?_ ?_; rotate_left; (· intro w' hF; go_simp; (try with_reducible rfl)); simp only [Act.put, List.setIfInBounds_toArray, List.set_cons_zero, List.set_cons_succ]) | (refine seq_skip _ rfl rfl (by rfl) ?_; simp only [Act.put, List.setIfInBounds_toArray, List.set_cons_zero, List.set_cons_succ]))
                          (first | (refine seq_read (fun _ => True) (fun _ _ => trivial) _ (v := ?_) rfl rfl (by rfl) ?_ ?_; rotate_left; (· intro w' hF; go_simp; (try with_reducible rfl)); simp only [Act.put, List.setIfInBounds_toArray, List.set_cons_zero, List.set_cons_succ]) | (refine seq_skip _ rfl rfl (by rfl) ?_; simp only [Act.put, List.setIfInBounds_toArray, List.set_cons_zero, List.set_cons_succ]))
                          (first | (refine seq_read (fun _ => True) (fun _ _ => trivial) _ (v := ?_) rfl rfl (by rfl) ?_ ?_; rotate_left; (· intro w' hF; go_simp; (try with_reducible rfl)); simp only [Act.put, List.setIfInBounds_toArray, List.set_cons_zero, List.set_cons_succ]) | (refine seq_skip _ rfl rfl (by rfl) ?_; simp only [Act.put, List.setIfInBounds_toArray, List.set_cons_zero, List.set_cons_succ]))
                          (first | (refine seq_read (fun _ => True) (fun _ _ => trivial) _ (v := ?_) rfl rfl (by rfl) ?_ ?_; rotate_left; (· intro w' hF; go_simp; (try with_reducible rfl)); simp only [Act.put, List.setIfInBounds_toArray, List.set_cons_zero, List.set_cons_succ]) | (refine seq_skip _ rfl rfl (by rfl) ?_; simp only [Act.put, List.setIfInBounds_toArray, List.set_cons_zero, List.set_cons_succ]))
                          (first | (refine seq_read (fun _ => True) (fun _ _ => trivial) _ (v := ?_) rfl rfl (by rfl) ?_ ?_; rotate_left; (· intro w' hF; go_simp; (try with_reducible rfl)); simp only [Act.put, List.setIfInBounds_toArray, List.set_cons_zero, List.set_cons_succ]) | (refine seq_skip _ rfl rfl (by rfl) ?_; simp only [Act.put, List.setIfInBounds_toArray, List.set_cons_zero, List.set_cons_succ]))
                          (first | (refine seq_read (fun _ => True) (fun _ _ => trivial) _ (v := ?_) rfl rfl (by rfl) ?_ ?_; rotate_left; (· intro w' hF; go_simp; (try with_reducible rfl)); simp only [Act.put, List.setIfInBounds_toArray, List.set_cons_zero, List.set_cons_succ]) | (refine seq_skip _ rfl rfl (by rfl) ?_; simp only [Act.put, List.setIfInBounds_toArray, List.set_cons_zero, List.set_cons_succ]))
                          (first | (refine seq_read (fun _ => True) (fun _ _ => trivial) _ (v := ?_) rfl rfl (by rfl) ?_ ?_; rotate_left; (· intro w' hF; go_simp; (try with_reducible rfl)); simp only [Act.put, List.setIfInBounds_toArray, List.set_cons_zero, List.set_cons_succ]) | (refine seq_skip _ rfl rfl (by rfl) ?_; simp only [Act.put, List.setIfInBounds_toArray, List.set_cons_zero, List.set_cons_succ]))
                          (first | (refine seq_read (fun _ => True) (fun _ _ => trivial) _ (v := ?_) rfl rfl (by rfl) ?_ ?_; rotate_left; (· intro w' hF; go_simp; (try with_reducible rfl)); simp only [Act.put, List.setIfInBounds_toArray, List.set_cons_zero, List.set_cons_succ]) | (refine seq_skip _ rfl rfl (by rfl) ?_; simp only [Act.put, List.setIfInBounds_toArray, List.set_cons_zero, List.set_cons_succ]))
                          (first | (refine seq_read (fun _ => True) (fun _ _ => trivial) _ (v := ?_) rfl rfl (by rfl) ?_ ?_; rotate_left; (· intro w' hF; go_simp; (try with_reducible rfl)); simp only [Act.put, List.setIfInBounds_toArray, List.set_cons_zero, List.set_cons_succ]) | (refine seq_skip _ rfl rfl (by rfl) ?_; simp only [Act.put, List.setIfInBounds_toArray, List.set_cons_zero, List.set_cons_succ]))
                          refine seq_done ?_
                          have X2 : Hid (Ext w6 w9.drew) := X9.out.drew
                          go_wp2_with fail
                          go_meet
                          exact ⟨rfl, X2.out⟩
                        · skip
                          refine wp_region_seq (R := Ext) Ext.refl (fun _ _ _ => Ext.trans) [0, 1, 2, 3, 4, 5, 6, 7, 8, 9, 10, 11, 12, 13, 14, 15, 16, 17, 18, 19, 20, 21, 22, 23, 24, 25, 26, 27, 28, 29, 30, 31, 32, 33, 34, 35, 36, 37] [] [(0, 130, 16777216), (1, 131, 1361129467683753853853498429727072845824), (2, 132, 2722258935367507707706996859454145691648), (4, 133, 5444517870735015415413993718908299771904), (4, 134, 5444517870735015415413993718908295577600), (20, 135, 27222589353675077077069968594541456924672), (36, 136, 49000660836615138738725943470174622449664), (76, 137, 103445839543965292892865880659257536282624), (132, 138, 179669089734255508708661792723973615648768), (256, 139, 348449143727040986586495598010130656919552), (256, 140, 348449143727040986586495598010130652725248), (1280, 141, 1742245718635204932932477990050653242916864), (2304, 142, 3136042293543368879278460382091175836778496), (4864, 143, 6620533730813778745143416362192482322087936), (8452, 144, 11504266260863087572769768728053219692904448), (16388, 145, 22306189716401358156951132266367269797363712), (33024, 146, 44601490397061246283071436545296723011960832), (65536, 147, 89202980794122492566142873090593446023921672), (196608, 148, 267608942382367477698428619271780338071764992), (327680, 149, 446014903970612462830714365452967230119608320), (524288, 150, 713623846352979940529142984724747568199761920), (524288, 151, 713623846352979940529142984724747568195567616), (2621440, 152, 3568119231764899702645714923623737840957128704), (4718592, 153, 6422614617176819464762286862522728113722359808), (9961472, 154, 13558853080706618870053716709770203795636092928), (17367040, 155, 23638789910442460530027861369007263196339240960), (33619968, 156, 45761129147384838686431293895474437810271813632), (67633152, 157, 91343852333181432387730302044767688728495783936), (134217728, 158, 182687704666362864775460604089535377456991567880), (402653184, 159, 548063113999088594326381812268606132370974703616), (671088640, 160, 913438523331814323877303020447676887284957839360), (1073741824, 161, 1461501637330902918203684832716283019655940931584), (1073741824, 162, 1461501637330902918203684832716283019655936737280), (5368709120, 163, 7307508186654514591018424163581415098279662723072), (9663676416, 164, 13153514735978126263833163494446547176903392886784), (20401094656, 165, 27768531109287155445870011821609377373462718316544), (35567697920, 166, 48412241736586159165497060083726875026102765486080), (68853694464, 167, 93718792493844149629811289897931648635436674318336)] (by kernel_rfl) (by kernel_rfl) (by kernel_rfl) rfl (by kernel_rfl) (by kernel_rfl) (fun _ _ d _ _ h => by cases d <;> exact h) ?_
                          (first | (refine seq_read (fun _ => True) (fun _ _ => trivial) _ (v := ?_) rfl rfl (by rfl) ?_ ?_; rotate_left; (· intro w' hF; go_simp; (try with_reducible rfl)); simp only [Act.put, List.setIfInBounds_toArray, List.set_cons_zero, List.set_cons_succ]) | (refine seq_skip _ rfl rfl (by rfl) ?_; simp only [Act.put, List.setIfInBounds_toArray, List.set_cons_zero, List.set_cons_succ]))
                          (first | (refine seq_read (fun _ => True) (fun _ _ => trivial) _ (v := ?_) rfl rfl (by rfl) ?_ ?_; rotate_left; (· intro w' hF; go_simp; (try with_reducible rfl)); simp only [Act.put, List.setIfInBounds_toArray, List.set_cons_zero, List.set_cons_succ]) | (refine seq_skip _ rfl rfl (by rfl) ?_; simp only [Act.put, List.setIfInBounds_toArray, List.set_cons_zero, List.set_cons_succ]))
                          (first | (refine seq_read (fun _ => True) (fun _ _ => trivial) _ (v := ?_) rfl rfl (by rfl) ?_ ?_; rotate_left; (· intro w' hF; go_simp; (try with_reducible rfl)); simp only [Act.put, List.setIfInBounds_toArray, List.set_cons_zero, List.set_cons_succ]) | (refine seq_skip _ rfl rfl (by rfl) ?_; simp only [Act.put, List.setIfInBounds_toArray, List.set_cons_zero, List.set_cons_succ]))
                          refine seq_read (fun w' => w'.heap[g22]? = some (.cells (cellsOf xs).toArray 58 (0, 0))) (fun w' e => (F9.out w' (Ext.trans (Ext.refl _).drew e)).1) _ (v := .agg (cellsOf xs).toArray) rfl rfl (by rfl) (fun w' hF => exec_load_row rfl rfl hF rfl rfl (by rw [S_x]; rfl)) ?_
                          simp only [Act.put, List.setIfInBounds_toArray, List.set_cons_zero, List.set_cons_succ]
                          (first | (refine seq_read (fun _ => True) (fun _ _ => trivial) _ (v := ?_) rfl rfl (by rfl) ?_ ?_; rotate_left; (· intro w' hF; go_simp; (try with_reducible rfl)); simp only [Act.put, List.setIfInBounds_toArray, List.set_cons_zero, List.set_cons_succ]) | (refine seq_skip _ rfl rfl (by rfl) ?_; simp only [Act.put, List.setIfInBounds_toArray, List.set_cons_zero, List.set_cons_succ]))
                          (first | (refine seq_read (fun _ => True) (fun _ _ => trivial) _ (v := ?_) rfl rfl (by rfl) ?_ ?_; rotate_left; (· intro w' hF; go_simp; (try with_reducible rfl)); simp only [Act.put, List.setIfInBounds_toArray, List.set_cons_zero, List.set_cons_succ]) | (refine seq_skip _ rfl rfl (by rfl) ?_; simp only [Act.put, List.setIfInBounds_toArray, List.set_cons_zero, List.set_cons_succ]))
                          refine seq_read (fun w' => ∀ q_ v, (cellsOf ya)[q_]? = some v → w'.cell? ⟨g12, (k * 64) + q_, none⟩ = some v) (fun w' e => (F9.out w' (Ext.trans (Ext.refl _).drew e)).2.1) _ (v := .agg (cellsOf ya).toArray) rfl rfl (by rfl) (fun w' hF => exec_load_mid rfl rfl hF rfl rfl (by rw [C_a]; rfl)) ?_
                          simp only [Act.put, List.setIfInBounds_toArray, List.set_cons_zero, List.set_cons_succ]
                          refine seq_read (fun _ => True) (fun _ _ => trivial) _ (v := .bool false) rfl rfl (by rfl) (fun w' _ => exec_neq_sector (xs := xs) (ys := ya) Q1.out L_x L_a rfl rfl rfl) ?_
                          simp only [Act.put, List.setIfInBounds_toArray, List.set_cons_zero, List.set_cons_succ]
                          (first | (refine seq_read (fun _ => True) (fun _ _ => trivial) _ (v := ?_) rfl rfl (by rfl) ?_ ?_; rotate_left; (· intro w' hF; go_simp; (try with_reducible rfl)); simp only [Act.put, List.setIfInBounds_toArray, List.set_cons_zero, List.set_cons_succ]) | (refine seq_skip _ rfl rfl (by rfl) ?_; simp only [Act.put, List.setIfInBounds_toArray, List.set_cons_zero, List.set_cons_succ]))
                          (first | (refine seq_read (fun _ => True) (fun _ _ => trivial) _ (v := ?_) rfl rfl (by rfl) ?_ ?_; rotate_left; (· intro w' hF; go_simp; (try with_reducible rfl)); simp only [Act.put, List.setIfInBounds_toArray, List.set_cons_zero, List.set_cons_succ]) | (refine seq_skip _ rfl rfl (by rfl) ?_; simp only [Act.put, List.setIfInBounds_toArray, List.set_cons_zero, List.set_cons_succ]))
                          (first | (refine seq_read (fun _ => True) (fun _ _ => trivial) _ (v := ?_) rfl rfl (by rfl) ?_ ?_; rotate_left; (· intro w' hF; go_simp; (try with_reducible rfl)); simp only [Act.put, List.setIfInBounds_toArray, List.set_cons_zero, List.set_cons_succ]) | (refine seq_skip _ rfl rfl (by rfl) ?_; simp only [Act.put, List.setIfInBounds_toArray, List.set_cons_zero, List.set_cons_succ]))
                          (first | (refine seq_read (fun _ => True) (fun _ _ => trivial) _ (v := ?_) rfl rfl (by rfl) ?_ ?_; rotate_left; (· intro w' hF; go_simp; (try with_reducible rfl)); simp only [Act.put, List.setIfInBounds_toArray, List.set_cons_zero, List.set_cons_succ]) | (refine seq_skip _ rfl rfl (by rfl) ?_; simp only [Act.put, List.setIfInBounds_toArray, List.set_cons_zero, List.set_cons_succ]))
                          (first | (refine seq_read (fun _ => True) (fun _ _ => trivial) _ (v := ?_) rfl rfl (by rfl) ?_ ?_; rotate_left; (· intro w' hF; go_simp; (try with_reducible rfl)); simp only [Act.put, List.setIfInBounds_toArray, List.set_cons_zero, List.set_cons_succ]) | (refine seq_skip _ rfl rfl (by rfl) ?_; simp only [Act.put, List.setIfInBounds_toArray, List.set_cons_zero, List.set_cons_succ]))
                          (first | (refine seq_read (fun _ => True) (fun _ _ => trivial) _ (v := ?_) rfl rfl (by rfl) ?_ ?_; rotate_left; (· intro w' hF; go_simp; (try with_reducible rfl)); simp only [Act.put, List.setIfInBounds_toArray, List.set_cons_zero, List.set_cons_succ]) | (refine seq_skip _ rfl rfl (by rfl) ?_; simp only [Act.put, List.setIfInBounds_toArray, List.set_cons_zero, List.set_cons_succ]))
                          (first | (refine seq_read (fun _ => True) (fun _ _ => trivial) _ (v := ?_) rfl rfl (by rfl) ?_ ?_; rotate_left; (· intro w' hF; go_simp; (try with_reducible rfl)); simp only [Act.put, List.setIfInBounds_toArray, List.set_cons_zero, List.set_cons_succ]) | (refine seq_skip _ rfl rfl (by rfl) ?_; simp only [Act.put, List.setIfInBounds_toArray, List.set_cons_zero, List.set_cons_succ]))
                          (first | (refine seq_read (fun _ => True) (fun _ _ => trivial) _ (v := ?_) rfl rfl (by rfl) ?_ ?_; rotate_left; (· intro w' hF; go_simp; (try with_reducible rfl)); simp only [Act.put, List.setIfInBounds_toArray, List.set_cons_zero, List.set_cons_succ]) | (refine seq_skip _ rfl rfl (by rfl) ?_; simp only [Act.put, List.setIfInBounds_toArray, List.set_cons_zero, List.set_cons_succ]))
                          (first | (refine seq_read (fun _ => True) (fun _ _ => trivial) _ (v := ?_) rfl rfl (by rfl) ?_ ?_; rotate_left; (· intro w' hF; go_simp; (try with_reducible rfl)); simp only [Act.put, List.setIfInBounds_toArray, List.set_cons_zero, List.set_cons_succ]) | (refine seq_skip _ rfl rfl (by rfl) ?_; simp only [Act.put, List.setIfInBounds_toArray, List.set_cons_zero, List.set_cons_succ]))
                          (first | (refine seq_read (fun _ => True) (fun _ _ => trivial) _ (v := ?_) rfl rfl (by rfl) ?_ ?_; rotate_left; (· intro w' hF; go_simp; (try with_reducible rfl)); simp only [Act.put, List.setIfInBounds_toArray, List.set_cons_zero, List.set_cons_succ]) | (refine seq_skip _ rfl rfl (by rfl) ?_; simp only [Act.put, List.setIfInBounds_toArray, List.set_cons_zero, List.set_cons_succ]))
                          (first | (refine seq_read (fun _ => True) (fun _ _ => trivial) _ (v := ?_) rfl rfl (by rfl) ?_ ?_; rotate_left; (· intro w' hF; go_simp; (try with_reducible rfl)); simp only [Act.put, List.setIfInBounds_toArray, List.set_cons_zero, List.set_cons_succ]) | (refine seq_skip _ rfl rfl (by rfl) ?_; simp only [Act.put, List.setIfInBounds_toArray, List.set_cons_zero, List.set_cons_succ]))
                          (first | (refine seq_read (fun _ => True) (fun _ _ => trivial) _ (v := ?_) rfl rfl (by rfl) ?_ ?_; rotate_left; (· intro w' hF; go_simp; (try with_reducible rfl)); simp only [Act.put, List.setIfInBounds_toArray, List.set_cons_zero, List.set_cons_succ]) | (refine seq_skip _ rfl rfl (by rfl) ?_; simp only [Act.put, List.setIfInBounds_toArray, List.set_cons_zero, List.set_cons_succ]))
                          (first | (refine seq_read (fun _ => True) (fun _ _ => trivial) _ (v := ?_) rfl rfl (by rfl) ?_ ?_; rotate_left; (· intro w' hF; go_simp; (try with_reducible rfl)); simp only [Act.put, List.setIfInBounds_toArray, List.set_cons_zero, List.set_cons_succ]) | (refine seq_skip _ rfl rfl (by rfl) ?_; simp only [Act.put, List.setIfInBounds_toArray, List.set_cons_zero, List.set_cons_succ]))
                          (first | (refine seq_read (fun _ => True) (fun _ _ => trivial) _ (v := ?_) rfl rfl (by rfl) ?_ ?_; rotate_left; (· intro w' hF; go_simp; (try with_reducible rfl)); simp only [Act.put, List.setIfInBounds_toArray, List.set_cons_zero, List.set_cons_succ]) | (refine seq_skip _ rfl rfl (by rfl) ?_; simp only [Act.put, List.setIfInBounds_toArray, List.set_cons_zero, List.set_cons_succ]))
                          (first | (refine seq_read (fun _ => True) (fun _ _ => trivial) _ (v := ?_) rfl rfl (by rfl) ?_ ?_; rotate_left; (· intro w' hF; go_simp; (try with_reducible rfl)); simp only [Act.put, List.setIfInBounds_toArray, List.set_cons_zero, List.set_cons_succ]) | (refine seq_skip _ rfl rfl (by rfl) ?_; simp only [Act.put, List.setIfInBounds_toArray, List.set_cons_zero, List.set_cons_succ]))
                          (first | (refine seq_read (fun _ => True) (fun _ _ => trivial) _ (v := ?_) rfl rfl (by rfl) ?_ ?_; rotate_left; (· intro w' hF; go_simp; (try with_reducible rfl)); simp only [Act.put, List.setIfInBounds_toArray, List.set_cons_zero, List.set_cons_succ]) | (refine seq_skip _ rfl rfl (by rfl) ?_; simp only [Act.put, List.setIfInBounds_toArray, List.set_cons_zero, List.set_cons_succ]))
                          (first | (refine seq_read (fun _ => True) (fun _ _ => trivial) _ (v := ?_) rfl rfl (by rfl) ?_ ?_; rotate_left; (· intro w' hF; go_simp; (try with_reducible rfl)); simp only [Act.put, List.setIfInBounds_toArray, List.set_cons_zero, List.set_cons_succ]) | (refine seq_skip _ rfl rfl (by rfl) ?_; simp only [Act.put, List.setIfInBounds_toArray, List.set_cons_zero, List.set_cons_succ]))
                          (first | (refine seq_read (fun _ => True) (fun _ _ => trivial) _ (v := ?_) rfl rfl (by rfl) ?_ ?_; rotate_left; (· intro w' hF; go_simp; (try with_reducible rfl)); simp only [Act.put, List.setIfInBounds_toArray, List.set_cons_zero, List.set_cons_succ]) | (refine seq_skip _ rfl rfl (by rfl) ?_; simp only [Act.put, List.setIfInBounds_toArray, List.set_cons_zero, List.set_cons_succ]))
                          (first | (refine seq_read (fun _ => True) (fun _ _ => trivial) _ (v := ?_) rfl rfl (by rfl) ?_ ?_; rotate_left; (· intro w' hF; go_simp; (try with_reducible rfl)); simp only [Act.put, List.setIfInBounds_toArray, List.set_cons_zero, List.set_cons_succ]) | (refine seq_skip _ rfl rfl (by rfl) ?_; simp only [Act.put, List.setIfInBounds_toArray, List.set_cons_zero, List.set_cons_succ]))
                          (first | (refine seq_read (fun _ => True) (fun _ _ => trivial) _ (v := ?_) rfl rfl (by rfl) ?_ ?_; rotate_left; (· intro w' hF; go_simp; (try with_reducible rfl)); simp only [Act.put, List.setIfInBounds_toArray, List.set_cons_zero, List.set_cons_succ]) | (refine seq_skip _ rfl rfl (by rfl) ?_; simp only [Act.put, List.setIfInBounds_toArray, List.set_cons_zero, List.set_cons_succ]))
                          (first | (refine seq_read (fun _ => True) (fun _ _ => trivial) _ (v := ?_) rfl rfl (by rfl) ?_ ?_; rotate_left; (· intro w' hF; go_simp; (try with_reducible rfl)); simp only [Act.put, List.setIfInBounds_toArray, List.set_cons_zero, List.set_cons_succ]) | (refine seq_skip _ rfl rfl (by rfl) ?_; simp only [Act.put, List.setIfInBounds_toArray, List.set_cons_zero, List.set_cons_succ]))
                          (first | (refine seq_read (fun _ => True) (fun _ _ => trivial) _ (v := ?_) rfl rfl (by rfl) ?_ ?_; rotate_left; (· intro w' hF; go_simp; (try with_reducible rfl)); simp only [Act.put, List.setIfInBounds_toArray, List.set_cons_zero, List.set_cons_succ]) | (refine seq_skip _ rfl rfl (by rfl) ?_; simp only [Act.put, List.setIfInBounds_toArray, List.set_cons_zero, List.set_cons_succ]))
                          (first | (refine seq_read (fun _ => True) (fun _ _ => trivial) _ (v := ?_) rfl rfl (by rfl) ?_ ?_; rotate_left; (· intro w' hF; go_simp; (try with_reducible rfl)); simp only [Act.put, List.setIfInBounds_toArray, List.set_cons_zero, List.set_cons_succ]) | (refine seq_skip _ rfl rfl (by rfl) ?_; simp only [Act.put, List.setIfInBounds_toArray, List.set_cons_zero, List.set_cons_succ]))
                          refine seq_read (fun w' => w'.heap[g22]? = some (.cells (cellsOf xs).toArray 58 (0, 0))) (fun w' e => (F9.out w' (Ext.trans (Ext.refl _).drew e)).1) _ (v := .agg (cellsOf xs).toArray) rfl rfl (by rfl) (fun w' hF => exec_load_row rfl rfl hF rfl rfl (by rw [S_x]; rfl)) ?_
                          simp only [Act.put, List.setIfInBounds_toArray, List.set_cons_zero, List.set_cons_succ]
                          (first | (refine seq_read (fun _ => True) (fun _ _ => trivial) _ (v := ?_) rfl rfl (by rfl) ?_ ?_; rotate_left; (· intro w' hF; go_simp; (try with_reducible rfl)); simp only [Act.put, List.setIfInBounds_toArray, List.set_cons_zero, List.set_cons_succ]) | (refine seq_skip _ rfl rfl (by rfl) ?_; simp only [Act.put, List.setIfInBounds_toArray, List.set_cons_zero, List.set_cons_succ]))
                          (first | (refine seq_read (fun _ => True) (fun _ _ => trivial) _ (v := ?_) rfl rfl (by rfl) ?_ ?_; rotate_left; (· intro w' hF; go_simp; (try with_reducible rfl)); simp only [Act.put, List.setIfInBounds_toArray, List.set_cons_zero, List.set_cons_succ]) | (refine seq_skip _ rfl rfl (by rfl) ?_; simp only [Act.put, List.setIfInBounds_toArray, List.set_cons_zero, List.set_cons_succ]))
                          refine seq_read (fun w' => ∀ q_ v, (cellsOf ya)[q_]? = some v → w'.cell? ⟨g12, (k * 64) + q_, none⟩ = some v) (fun w' e => (F9.out w' (Ext.trans (Ext.refl _).drew e)).2.1) _ (v := .agg (cellsOf ya).toArray) rfl rfl (by rfl) (fun w' hF => exec_load_mid rfl rfl hF rfl rfl (by rw [C_a]; rfl)) ?_
                          simp only [Act.put, List.setIfInBounds_toArray, List.set_cons_zero, List.set_cons_succ]
                          refine seq_read (fun _ => True) (fun _ _ => trivial) _ (v := .bool false) rfl rfl (by rfl) (fun w' _ => exec_neq_sector (xs := xs) (ys := ya) Q1.out L_x L_a rfl rfl rfl) ?_
                          simp only [Act.put, List.setIfInBounds_toArray, List.set_cons_zero, List.set_cons_succ]
                          (first | (refine seq_read (fun _ => True) (fun _ _ => trivial) _ (v := ?_) rfl rfl (by rfl) ?_ ?_; rotate_left; (· intro w' hF; go_simp; (try with_reducible rfl)); simp only [Act.put, List.setIfInBounds_toArray, List.set_cons_zero, List.set_cons_succ]) | (refine seq_skip _ rfl rfl (by rfl) ?_; simp only [Act.put, List.setIfInBounds_toArray, List.set_cons_zero, List.set_cons_succ]))
                          (first | (refine seq_read (fun _ => True) (fun _ _ => trivial) _ (v := ?_) rfl rfl (by rfl) ?_ ?_; rotate_left; (· intro w' hF; go_simp; (try with_reducible rfl)); simp only [Act.put, List.setIfInBounds_toArray, List.set_cons_zero, List.set_cons_succ]) | (refine seq_skip _ rfl rfl (by rfl) ?_; simp only [Act.put, List.setIfInBounds_toArray, List.set_cons_zero, List.set_cons_succ]))
                          refine seq_done ?_
                          have X2 : Hid (Ext w6 w9.drew) := X9.out.drew
                          go_wp2_with fail
                          go_meet
                          exact ⟨rfl, X2.out⟩
                        · skip
                          refine wp_region_seq (R := Ext) Ext.refl (fun _ _ _ => Ext.trans) [0, 1, 2, 3, 4, 5, 6, 7, 8, 9, 10, 11, 12, 13, 14, 15, 16, 17, 18, 19, 20, 21, 22, 23, 24, 25, 26, 27, 28, 29, 30, 31, 32, 33, 34, 35, 36, 37] [] [(0, 130, 16777216), (1, 131, 1361129467683753853853498429727072845824), (2, 132, 2722258935367507707706996859454145691648), (4, 133, 5444517870735015415413993718908299771904), (4, 134, 5444517870735015415413993718908295577600), (20, 135, 27222589353675077077069968594541456924672), (36, 136, 49000660836615138738725943470174622449664), (76, 137, 103445839543965292892865880659257536282624), (132, 138, 179669089734255508708661792723973615648768), (256, 139, 348449143727040986586495598010130656919552), (256, 140, 348449143727040986586495598010130652725248), (1280, 141, 1742245718635204932932477990050653242916864), (2304, 142, 3136042293543368879278460382091175836778496), (4864, 143, 6620533730813778745143416362192482322087936), (8452, 144, 11504266260863087572769768728053219692904448), (16388, 145, 22306189716401358156951132266367269797363712), (33024, 146, 44601490397061246283071436545296723011960832), (65536, 147, 89202980794122492566142873090593446023921672), (196608, 148, 267608942382367477698428619271780338071764992), (327680, 149, 446014903970612462830714365452967230119608320), (524288, 150, 713623846352979940529142984724747568199761920), (524288, 151, 713623846352979940529142984724747568195567616), (2621440, 152, 3568119231764899702645714923623737840957128704), (4718592, 153, 6422614617176819464762286862522728113722359808), (9961472, 154, 13558853080706618870053716709770203795636092928), (17367040, 155, 23638789910442460530027861369007263196339240960), (33619968, 156, 45761129147384838686431293895474437810271813632), (67633152, 157, 91343852333181432387730302044767688728495783936), (134217728, 158, 182687704666362864775460604089535377456991567880), (402653184, 159, 548063113999088594326381812268606132370974703616), (671088640, 160, 913438523331814323877303020447676887284957839360), (1073741824, 161, 1461501637330902918203684832716283019655940931584), (1073741824, 162, 1461501637330902918203684832716283019655936737280), (5368709120, 163, 7307508186654514591018424163581415098279662723072), (9663676416, 164, 13153514735978126263833163494446547176903392886784), (20401094656, 165, 27768531109287155445870011821609377373462718316544), (35567697920, 166, 48412241736586159165497060083726875026102765486080), (68853694464, 167, 93718792493844149629811289897931648635436674318336)] (by kernel_rfl) (by kernel_rfl) (by kernel_rfl) rfl (by kernel_rfl) (by kernel_rfl) (fun _ _ d _ _ h => by cases d <;> exact h) ?_
                          (first | (refine seq_read (fun _ => True) (fun _ _ => trivial) _ (v := ?_) rfl rfl (by rfl) ?_ ?_; rotate_left; (· intro w' hF; go_simp; (try with_reducible rfl)); simp only [Act.put, List.setIfInBounds_toArray, List.set_cons_zero, List.set_cons_succ]) | (refine seq_skip _ rfl rfl (by rfl) ?_; simp only [Act.put, List.setIfInBounds_toArray, List.set_cons_zero, List.set_cons_succ]))
                          (first | (refine seq_read (fun _ => True) (fun _ _ => trivial) _ (v := ?_) rfl rfl (by rfl) ?_ ?_; rotate_left; (· intro w' hF; go_simp; (try with_reducible rfl)); simp only [Act.put, List.setIfInBounds_toArray, List.set_cons_zero, List.set_cons_succ]) | (refine seq_skip _ rfl rfl (by rfl) ?_; simp only [Act.put, List.setIfInBounds_toArray, List.set_cons_zero, List.set_cons_succ]))
                          (first | (refine seq_read (fun _ => True) (fun _ _ => trivial) _ (v := ?_) rfl rfl (by rfl) ?_ ?_; rotate_left; (· intro w' hF; go_simp; (try with_reducible rfl)); simp only [Act.put, List.setIfInBounds_toArray, List.set_cons_zero, List.set_cons_succ]) | (refine seq_skip _ rfl rfl (by rfl) ?_; simp only [Act.put, List.setIfInBounds_toArray, List.set_cons_zero, List.set_cons_succ]))
                          refine seq_read (fun w' => w'.heap[g22]? = some (.cells (cellsOf xs).toArray 58 (0, 0))) (fun w' e => (F9.out w' (Ext.trans (Ext.refl _).drew e)).1) _ (v := .agg (cellsOf xs).toArray) rfl rfl (by rfl) (fun w' hF => exec_load_row rfl rfl hF rfl rfl (by rw [S_x]; rfl)) ?_
                          simp only [Act.put, List.setIfInBounds_toArray, List.set_cons_zero, List.set_cons_succ]
                          (first | (refine seq_read (fun _ => True) (fun _ _ => trivial) _ (v := ?_) rfl rfl (by rfl) ?_ ?_; rotate_left; (· intro w' hF; go_simp; (try with_reducible rfl)); simp only [Act.put, List.setIfInBounds_toArray, List.set_cons_zero, List.set_cons_succ]) | (refine seq_skip _ rfl rfl (by rfl) ?_; simp only [Act.put, List.setIfInBounds_toArray, List.set_cons_zero, List.set_cons_succ]))
                          (first | (refine seq_read (fun _ => True) (fun _ _ => trivial) _ (v := ?_) rfl rfl (by rfl) ?_ ?_; rotate_left; (· intro w' hF; go_simp; (try with_reducible rfl)); simp only [Act.put, List.setIfInBounds_toArray, List.set_cons_zero, List.set_cons_succ]) | (refine seq_skip _ rfl rfl (by rfl) ?_; simp only [Act.put, List.setIfInBounds_toArray, List.set_cons_zero, List.set_cons_succ]))
                          refine seq_read (fun w' => ∀ q_ v, (cellsOf ya)[q_]? = some v → w'.cell? ⟨g12, (k * 64) + q_, none⟩ = some v) (fun w' e => (F9.out w' (Ext.trans (Ext.refl _).drew e)).2.1) _ (v := .agg (cellsOf ya).toArray) rfl rfl (by rfl) (fun w' hF => exec_load_mid rfl rfl hF rfl rfl (by rw [C_a]; rfl)) ?_
                          simp only [Act.put, List.setIfInBounds_toArray, List.set_cons_zero, List.set_cons_succ]
                          refine seq_read (fun _ => True) (fun _ _ => trivial) _ (v := .bool false) rfl rfl (by rfl) (fun w' _ => exec_neq_sector (xs := xs) (ys := ya) Q1.out L_x L_a rfl rfl rfl) ?_
                          simp only [Act.put, List.setIfInBounds_toArray, List.set_cons_zero, List.set_cons_succ]
                          (first | (refine seq_read (fun _ => True) (fun _ _ => trivial) _ (v := ?_) rfl rfl (by rfl) ?_ ?_; rotate_left; (· intro w' hF; go_simp; (try with_reducible rfl)); simp only [Act.put, List.setIfInBounds_toArray, List.set_cons_zero, List.set_cons_succ]) | (refine seq_skip _ rfl rfl (by rfl) ?_; simp only [Act.put, List.setIfInBounds_toArray, List.set_cons_zero, List.set_cons_succ]))
                          (first | (refine seq_read (fun _ => True) (fun _ _ => trivial) _ (v := ?_) rfl rfl (by rfl) ?_ ?_; rotate_left; (· intro w' hF; go_simp; (try with_reducible rfl)); simp only [Act.put, List.setIfInBounds_toArray, List.set_cons_zero, List.set_cons_succ]) | (refine seq_skip _ rfl rfl (by rfl) ?_; simp only [Act.put, List.setIfInBounds_toArray, List.set_cons_zero, List.set_cons_succ]))
                          (first | (refine seq_read (fun _ => True) (fun _ _ => trivial) _ (v := ?_) rfl rfl (by rfl) ?_ ?_; rotate_left; (· intro w' hF; go_simp; (try with_reducible rfl)); simp only [Act.put, List.setIfInBounds_toArray, List.set_cons_zero, List.set_cons_succ]) | (refine seq_skip _ rfl rfl (by rfl) ?_; simp only [Act.put, List.setIfInBounds_toArray, List.set_cons_zero, List.set_cons_succ]))
                          (first | (refine seq_read (fun _ => True) (fun _ _ => trivial) _ (v := ?_) rfl rfl (by rfl) ?_ ?_; rotate_left; (· intro w' hF; go_simp; (try with_reducible rfl)); simp only [Act.put, List.setIfInBounds_toArray, List.set_cons_zero, List.set_cons_succ]) | (refine seq_skip _ rfl rfl (by rfl) ?_; simp only [Act.put, List.setIfInBounds_toArray, List.set_cons_zero, List.set_cons_succ]))
                          (first | (refine seq_read (fun _ => True) (fun _ _ => trivial) _ (v := ?_) rfl rfl (by rfl) ?_ ?_; rotate_left; (· intro w' hF; go_simp; (try with_reducible rfl)); simp only [Act.put, List.setIfInBounds_toArray, List.set_cons_zero, List.set_cons_succ]) | (refine seq_skip _ rfl rfl (by rfl) ?_; simp only [Act.put, List.setIfInBounds_toArray, List.set_cons_zero, List.set_cons_succ]))
                          (first | (refine seq_read (fun _ => True) (fun _ _ => trivial) _ (v := ?_) rfl rfl (by rfl) ?_ ?_; rotate_left; (· intro w' hF; go_simp; (try with_reducible rfl)); simp only [Act.put, List.setIfInBounds_toArray, List.set_cons_zero, List.set_cons_succ]) | (refine seq_skip _ rfl rfl (by rfl) ?_; simp only [Act.put, List.setIfInBounds_toArray, List.set_cons_zero, List.set_cons_succ]))
                          (first | (refine seq_read (fun _ => True) (fun _ _ => trivial) _ (v := ?_) rfl rfl (by rfl) ?_ ?_; rotate_left; (· intro w' hF; go_simp; (try with_reducible rfl)); simp only [Act.put, List.setIfInBounds_toArray, List.set_cons_zero, List.set_cons_succ]) | (refine seq_skip _ rfl rfl (by rfl) ?_; simp only [Act.put, List.setIfInBounds_toArray, List.set_cons_zero, List.set_cons_succ]))
                          (first | (refine seq_read (fun _ => True) (fun _ _ => trivial) _ (v := ?_) rfl rfl (by rfl) ?_ ?_; rotate_left; (· intro w' hF; go_simp; (try with_reducible rfl)); simp only [Act.put, List.setIfInBounds_toArray, List.set_cons_zero, List.set_cons_succ]) | (refine seq_skip _ rfl rfl (by rfl) ?_; simp only [Act.put, List.setIfInBounds_toArray, List.set_cons_zero, List.set_cons_succ]))
                          (first | (refine seq_read (fun _ => True) (fun _ _ => trivial) _ (v := ?_) rfl rfl (by rfl) ?_ ?_; rotate_left; (· intro w' hF; go_simp; (try with_reducible rfl)); simp only [Act.put, List.setIfInBounds_toArray, List.set_cons_zero, List.set_cons_succ]) | (refine seq_skip _ rfl rfl (by rfl) ?_; simp only [Act.put, List.setIfInBounds_toArray, List.set_cons_zero, List.set_cons_succ]))
                          (first | (refine seq_read (fun _ => True) (fun _ _ => trivial) _ (v := ?_) rfl rfl (by rfl) ?_ ?_; rotate_left; (· intro w' hF; go_simp; (try with_reducible rfl)); simp only [Act.put, List.setIfInBounds_toArray, List.set_cons_zero, List.set_cons_succ]) | (refine seq_skip _ rfl rfl (by rfl) ?_; simp only [Act.put, List.setIfInBounds_toArray, List.set_cons_zero, List.set_cons_succ]))
                          (first | (refine seq_read (fun _ => True) (fun _ _ => trivial) _ (v := ?_) rfl rfl (by rfl) ?_ ?_; rotate_left; (· intro w' hF; go_simp; (try with_reducible rfl)); simp only [Act.put, List.setIfInBounds_toArray, List.set_cons_zero, List.set_cons_succ]) | (refine seq_skip _ rfl rfl (by rfl) ?_; simp only [Act.put, List.setIfInBounds_toArray, List.set_cons_zero, List.set_cons_succ]))
                          (first | (refine seq_read (fun _ => True) (fun _ _ => trivial) _ (v := ?_) rfl rfl (by rfl) ?_ ?_; rotate_left; (· intro w' hF; go_simp; (try with_reducible rfl)); simp only [Act.put, List.setIfInBounds_toArray, List.set_cons_zero, List.set_cons_succ]) | (refine seq_skip _ rfl rfl (by rfl) ?_; simp only [Act.put, List.setIfInBounds_toArray, List.set_cons_zero, List.set_cons_succ]))
                          refine seq_read (fun w' => w'.heap[g22]? = some (.cells (cellsOf xs).toArray 58 (0, 0))) (fun w' e => (F9.out w' (Ext.trans (Ext.refl _).drew e)).1) _ (v := .agg (cellsOf xs).toArray) rfl rfl (by rfl) (fun w' hF => exec_load_row rfl rfl hF rfl rfl (by rw [S_x]; rfl)) ?_
                          simp only [Act.put, List.setIfInBounds_toArray, List.set_cons_zero, List.set_cons_succ]
                          (first | (refine seq_read (fun _ => True) (fun _ _ => trivial) _ (v := ?_) rfl rfl (by rfl) ?_ ?_; rotate_left; (· intro w' hF; go_simp; (try with_reducible rfl)); simp only [Act.put, List.setIfInBounds_toArray, List.set_cons_zero, List.set_cons_succ]) | (refine seq_skip _ rfl rfl (by rfl) ?_; simp only [Act.put, List.setIfInBounds_toArray, List.set_cons_zero, List.set_cons_succ]))
                          (first | (refine seq_read (fun _ => True) (fun _ _ => trivial) _ (v := ?_) rfl rfl (by rfl) ?_ ?_; rotate_left; (· intro w' hF; go_simp; (try with_reducible rfl)); simp only [Act.put, List.setIfInBounds_toArray, List.set_cons_zero, List.set_cons_succ]) | (refine seq_skip _ rfl rfl (by rfl) ?_; simp only [Act.put, List.setIfInBounds_toArray, List.set_cons_zero, List.set_cons_succ]))
                          refine seq_read (fun w' => ∀ q_ v, (cellsOf yb)[q_]? = some v → w'.cell? ⟨g17, (k * 64) + q_, none⟩ = some v) (fun w' e => (F9.out w' (Ext.trans (Ext.refl _).drew e)).2.2) _ (v := .agg (cellsOf yb).toArray) rfl rfl (by rfl) (fun w' hF => exec_load_mid rfl rfl hF rfl rfl (by rw [C_b]; rfl)) ?_
                          simp only [Act.put, List.setIfInBounds_toArray, List.set_cons_zero, List.set_cons_succ]
                          refine seq_read (fun _ => True) (fun _ _ => trivial) _ (v := .bool false) rfl rfl (by rfl) (fun w' _ => exec_neq_sector (xs := xs) (ys := yb) Q2.out L_x L_b rfl rfl rfl) ?_
                          simp only [Act.put, List.setIfInBounds_toArray, List.set_cons_zero, List.set_cons_succ]
                          (first | (refine seq_read (fun _ => True) (fun _ _ => trivial) _ (v := ?_) rfl rfl (by rfl) ?_ ?_; rotate_left; (· intro w' hF; go_simp; (try with_reducible rfl)); simp only [Act.put, List.setIfInBounds_toArray, List.set_cons_zero, List.set_cons_succ]) | (refine seq_skip _ rfl rfl (by rfl) ?_; simp only [Act.put, List.setIfInBounds_toArray, List.set_cons_zero, List.set_cons_succ]))
                          (first | (refine seq_read (fun _ => True) (fun _ _ => trivial) _ (v := ?_) rfl rfl (by rfl) ?_ ?_; rotate_left; (· intro w' hF; go_simp; (try with_reducible rfl)); simp only [Act.put, List.setIfInBounds_toArray, List.set_cons_zero, List.set_cons_succ]) | (refine seq_skip _ rfl rfl (by rfl) ?_; simp only [Act.put, List.setIfInBounds_toArray, List.set_cons_zero, List.set_cons_succ]))
                          (first | (refine seq_read (fun _ => True) (fun _ _ => trivial) _ (v := ?_) rfl rfl (by rfl) ?_ ?_; rotate_left; (· intro w' hF; go_simp; (try with_reducible rfl)); simp only [Act.put, List.setIfInBounds_toArray, List.set_cons_zero, List.set_cons_succ]) | (refine seq_skip _ rfl rfl (by rfl) ?_; simp only [Act.put, List.setIfInBounds_toArray, List.set_cons_zero, List.set_cons_succ]))
                          (first | (refine seq_read (fun _ => True) (fun _ _ => trivial) _ (v := ?_) rfl rfl (by rfl) ?_ ?_; rotate_left; (· intro w' hF; go_simp; (try with_reducible rfl)); simp only [Act.put, List.setIfInBounds_toArray, List.set_cons_zero, List.set_cons_succ]) | (refine seq_skip _ rfl rfl (by rfl) ?_; simp only [Act.put, List.setIfInBounds_toArray, List.set_cons_zero, List.set_cons_succ]))
                          (first | (refine seq_read (fun _ => True) (fun _ _ => trivial) _ (v := ?_) rfl rfl (by rfl) ?_ ?_; rotate_left; (· intro w' hF; go_simp; (try with_reducible rfl)); simp only [Act.put, List.setIfInBounds_toArray, List.set_cons_zero, List.set_cons_succ]) | (refine seq_skip _ rfl rfl (by rfl) ?_; simp only [Act.put, List.setIfInBounds_toArray, List.set_cons_zero, List.set_cons_succ]))
                          (first | (refine seq_read (fun _ => True) (fun _ _ => trivial) _ (v := ?_) rfl rfl (by rfl) ?_ ?_; rotate_left; (· intro w' hF; go_simp; (try with_reducible rfl)); simp only [Act.put, List.setIfInBounds_toArray, List.set_cons_zero, List.set_cons_succ]) | (refine seq_skip _ rfl rfl (by rfl) ?_; simp only [Act.put, List.setIfInBounds_toArray, List.set_cons_zero, List.set_cons_succ]))
                          (first | (refine seq_read (fun _ => True) (fun _ _ => trivial) _ (v := ?_) rfl rfl (by rfl) ?_ ?_; rotate_left; (· intro w' hF; go_simp; (try with_reducible rfl)); simp only [Act.put, List.setIfInBounds_toArray, List.set_cons_zero, List.set_cons_succ]) | (refine seq_skip _ rfl rfl (by rfl) ?_; simp only [Act.put, List.setIfInBounds_toArray, List.set_cons_zero, List.set_cons_succ]))
                          (first | (refine seq_read (fun _ => True) (fun _ _ => trivial) _ (v := ?_) rfl rfl (by rfl) ?_ ?_; rotate_left; (· intro w' hF; go_simp; (try with_reducible rfl)); simp only [Act.put, List.setIfInBounds_toArray, List.set_cons_zero, List.set_cons_succ]) | (refine seq_skip _ rfl rfl (by rfl) ?_; simp only [Act.put, List.setIfInBounds_toArray, List.set_cons_zero, List.set_cons_succ]))
                          (first | (refine seq_read (fun _ => True) (fun _ _ => trivial) _ (v := ?_) rfl rfl (by rfl) ?_ ?_; rotate_left; (· intro w' hF; go_simp; (try with_reducible rfl)); simp only [Act.put, List.setIfInBounds_toArray, List.set_cons_zero, List.set_cons_succ]) | (refine seq_skip _ rfl rfl (by rfl) ?_; simp only [Act.put, List.setIfInBounds_toArray, List.set_cons_zero, List.set_cons_succ]))
                          (first | (refine seq_read (fun _ => True) (fun _ _ => trivial) _ (v := ?_) rfl rfl (by rfl) ?_ ?_; rotate_left; (· intro w' hF; go_simp; (try with_reducible rfl)); simp only [Act.put, List.setIfInBounds_toArray, List.set_cons_zero, List.set_cons_succ]) | (refine seq_skip _ rfl rfl (by rfl) ?_; simp only [Act.put, List.setIfInBounds_toArray, List.set_cons_zero, List.set_cons_succ]))
                          (first | (refine seq_read (fun _ => True) (fun _ _ => trivial) _ (v := ?_) rfl rfl (by rfl) ?_ ?_; rotate_left; (· intro w' hF; go_simp; (try with_reducible rfl)); simp only [Act.put, List.setIfInBounds_toArray, List.set_cons_zero, List.set_cons_succ]) | (refine seq_skip _ rfl rfl (by rfl) ?_; simp only [Act.put, List.setIfInBounds_toArray, List.set_cons_zero, List.set_cons_succ]))
                          (first | (refine seq_read (fun _ => True) (fun _ _ => trivial) _ (v := ?_) rfl rfl (by rfl) ?_ ?_; rotate_left; (· intro w' hF; go_simp; (try with_reducible rfl)); simp only [Act.put, List.setIfInBounds_toArray, List.set_cons_zero, List.set_cons_succ]) | (refine seq_skip _ rfl rfl (by rfl) ?_; simp only [Act.put, List.setIfInBounds_toArray, List.set_cons_zero, List.set_cons_succ]))
                          (first | (refine seq_read (fun _ => True) (fun _ _ => trivial) _ (v := ?_) rfl rfl (by rfl) ?_ ?_; rotate_left; (· intro w' hF; go_simp; (try with_reducible rfl)); simp only [Act.put, List.setIfInBounds_toArray, List.set_cons_zero, List.set_cons_succ]) | (refine seq_skip _ rfl rfl (by rfl) ?_; simp only [Act.put, List.setIfInBounds_toArray, List.set_cons_zero, List.set_cons_succ]))
                          refine seq_done ?_
                          have X2 : Hid (Ext w6 w9.drew) := X9.out.drew
                          go_wp2_with fail
                          go_meet
                          exact ⟨rfl, X2.out⟩
                        · exact absurd (And.intro rfl rfl) T4
                      case rest =>
                        obtain ⟨rfl, xc⟩ := hcut
                        replace xc := Lib.hid xc
                        clear F9 X9 Q1 Q2 K1 K0 T1 T2 T3 T4
                        go_wp2_with fail
                        go_round
                        case rel => exact ⟨k + 1, by omega, by go_num, xc.out⟩
                        case measure => simp [intOf]; omega
                    · obtain rfl : k = 8 := by omega
                      have PN := dpending_calls dk
                      rw [CPN.out] at PN
                      replace PN := Lib.hid PN
                      replace xw := Lib.hid xw
                      clear B6 dk ka kb ST UP_c CPN W12 W17 S12 S17
                      go_wp2_with fail
                      refine PN.out.mono ?_
                      rintro e w8 ⟨A8, c8, rfl, _, x8⟩
                      have X8 : Hid (Ext w w8) := xw.out.trans x8
                      clear PN x8 xw
                      go_wp2_with fail
                      go_ret
                      exact ⟨rfl, X8.out⟩
end Go.Proofs.Ytonjialkfbbhpaa
