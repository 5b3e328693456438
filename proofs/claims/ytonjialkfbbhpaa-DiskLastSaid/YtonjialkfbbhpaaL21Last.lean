/-
  The law DiskLast.
-/
import Derived.Test.YtonjialkfbbhpaaSu21
import Derived.Deep.DeepCutAuto
namespace Go.Proofs.Ytonjialkfbbhpaa
open Go.ChangeShapes Go.WideShapes Go.ChangeAt Go.RowKit Go.Deep Go.Maps
set_option maxRecDepth 100000

/-- The disk, and what is wanted of it. -/
structure LI (d : Ds) (W : List (List UInt8)) : Prop where
  up : Up d 8
  wl : W.length = 8
  ws : ∀ s ∈ W, s.length = 64
  rd : ∀ k : Nat, k < 8 → d.read (k : Int) = W.getD k []
theorem LI.start : LI (newD 8) z8 := ⟨Up.new (by omega), rfl, z8_len, by decide +kernel⟩
theorem LI.sync {d : Ds} {W : List (List UInt8)} (h : LI d W) : LI d.sync W := by
  rw [h.up.sync.1]
  exact ⟨h.up.flush, h.wl, h.ws, fun k hk => (h.up.read_flush hk).trans (h.rd k hk)⟩
theorem LI.put {d : Ds} {W : List (List UInt8)} (h : LI d W) {k : Nat} (hk : k < 8) {xs : List UInt8} (hx : xs.length = 64) : LI (d.write (k : Int) xs) (W.set k xs) := by
  have u := h.up.write (k : Int) xs
  rw [(h.up.write_in hk xs).1] at u ⊢
  exact ⟨u, by rw [List.length_set]; exact h.wl, mem_set8 h.ws hx, fun j hj => by rw [h.up.read_put hj, getD_set8 (by rw [h.wl]; exact hk), h.rd j hj]⟩
theorem grown_ofE21 {w w' : World} {g : Nat} (h : Ext w w') : w.grownBy w' (some g) := ⟨h.os, h.tape, h.output, h.size, fun i hi _ => h.block i hi⟩
set_option maxHeartbeats 16000000 in
theorem last21_calls {w : World} {LO : List O21} {A : Option Addr} {len cap : Nat} (hl : Cs w 4 A len cap (LO.map O21.C)) (ol : ∀ o ∈ LO, o.ok) :
    Calls Try.prog 11 #[.slice A len cap] w fun e w' => e = .returned (.bool true) ∧ Ext w w' := by
  have AW := Lib.hid (fun (W : World) => awake21_calls (w := W))
  have NW := Lib.hid (fun (W : World) => dnew_ok (w := W) (n := 8) (by omega) (by omega))
  have OA := Lib.hid (fun i (hi : i < len) => o21_at hl ol hi)
  have hal1 := want_alloc
  have hal2 := sector_alloc
  have q1 := hl.2.1
  have q2 : cap ≤ 9223372036854775807 := by have := q1.2; unfold maxLen at this; omega
  have Lz := zS64_len
  have LS := Lib.hid LI.start
  have ZW : ((z8.map cellsOf).flatten).length = 512 := by kernel_rfl
  generalize zS64 = ZL at *
  have S_ZL : ZL.toArray.size = 64 := by rw [List.size_toArray, Lz]
  clear hl ol
  generalize z8 = Z8 at *
  obtain ⟨ZC, hZC⟩ : ∃ ZC, ZC = (Z8.map cellsOf).flatten := ⟨_, rfl⟩
  rw [← hZC] at hal1 ZW
  replace hZC := Lib.hid (fun _ : Unit => hZC)
  go_enter Try.func11, Try.ntmps11
  go_wp2_with fail
  refine (AW.out _).mono ?_
  rintro e w1 ⟨rfl, x1⟩
  replace x1 := Lib.hid x1
  have NW1 := Lib.hid (NW.out w1)
  clear AW NW
  go_wp2_with fail
  refine NW1.out.mono ?_
  rintro e w2 ⟨g, r, mb0, rfl, wg, wrr, wb, k2, x2⟩
  have X2 : Hid (Ext w w2) := x1.out.trans x2
  have gs := x1.out.size
  replace wg : w.heap.size ≤ g := Nat.le_trans gs wg
  replace wrr : w.heap.size ≤ r := Nat.le_trans gs wrr
  replace wb : w.heap.size ≤ mb0 := Nat.le_trans gs wb
  replace k2 := Lib.hid k2
  clear NW1 x1 x2 gs
  rcases Decidable.em (100 < len) with h100 | h100
  · have u3 : decide ((100 : Int) < (len : Int)) = true := decide_eq_true (by omega)
    clear k2 OA
    go_wp2_with fail
    go_ret
    exact ⟨rfl, X2.out⟩
  have u3 : decide ((100 : Int) < (len : Int)) = false := decide_eq_false (by omega)
  have wg6 : w.heap.size ≤ w2.heap.size := X2.out.size
  have K3 : Hid (Cb (w2.alloc (.cells ZC.toArray 73)) w2.heap.size 73 (Z8.map cellsOf).flatten ∧ DK (w2.alloc (.cells ZC.toArray 73)) g r mb0 (newD 8) ∧ Ext w (w2.alloc (.cells ZC.toArray 73))) := by
    refine ⟨?_, k2.out.ext ((Ext.refl _).alloc _), X2.out.alloc _⟩
    rw [← hZC.out ()]
    exact Cb.new _ _ _
  clear k2 X2 hZC
  go_upto_region 6 with fail
  refine wp_gen (fun W => Cb W w2.heap.size 73 (Z8.map cellsOf).flatten ∧ DK W g r mb0 (newD 8) ∧ Ext w W) K3.out ?_
  generalize w2.heap.size = g6 at *
  clear K3 w2
  rintro w3 K3
  replace K3 := Lib.hid K3
  go_wp2_with fail
  go_loopw [7] (fun v wr => ∃ (i mb : Nat) (d : Ds) (W : List (List UInt8)), i ≤ len ∧ v = .int .i64 (i : Int) ∧ DK wr g r mb d ∧ LI d W ∧ Cb wr g6 73 (W.map cellsOf).flatten ∧ w.heap.size ≤ mb ∧ Ext w wr) (fun v _ => len - (intOf v).toNat)
  case atStart => exact ⟨0, mb0, _, Z8, Nat.zero_le _, rfl, K3.out.2.1, LS.out, K3.out.1, wb, K3.out.2.2⟩
  case round =>
    clear K3 LS wb
    obtain ⟨i, mb, d, W, hi, rfl, dk, li, kw, wb, xr⟩ := hrel
    by_cases hlt : i < len
    · obtain ⟨b0, off, o, rfl, _, hok, hb0, oc⟩ := OA.out i hlt
      obtain ⟨c0, c1, c2, _⟩ := oc wr xr
      have hwi : IntKind.i64.wrap ((i : Int) + 1) = (i : Int) + 1 := IntWalk.i64_in _ (by omega)
      have u1 : (0 : Int) ≤ (i : Int) := by omega
      have u2 : (i : Int) < (len : Int) := by omega
      obtain ⟨od, oi, ob, kept⟩ := o
      dsimp only at c0 c1 c2
      by_cases h2 : od = 2
      · subst h2
        have SY := Lib.hid (sync_calls dk)
        have lis := Lib.hid li.sync
        have gk : g6 ≠ g ∧ g6 ≠ r := ⟨cb_differ kw dk.cb (by decide), cb_differ kw dk.row (by decide)⟩
        clear oc c1 c2 dk li
        go_wp2_with fail
        refine SY.out.mono ?_
        rintro e w4 ⟨rfl, mb4, k4, h4, t4⟩
        have F : Hid (Cb w4 g6 73 (W.map cellsOf).flatten ∧ w.heap.size ≤ mb4 ∧ Ext w w4) := ⟨t4.block kw gk.1 gk.2, by have := xr.size; omega, t4.ext xr wg wrr⟩
        clear SY t4 kw xr c0
        replace k4 := Lib.hid k4
        go_wp2_with fail
        go_round
        case rel => exact ⟨i + 1, mb4, _, W, by omega, by go_num, k4.out, lis.out, F.out.1, F.out.2.1, F.out.2.2⟩
        case measure => simp [intOf]; omega
      · have v0 : (od == 2) = false := beq_eq_false_iff_ne.2 h2
        have OF := Lib.hid (fun W' => of21_calls (w := W') (b := ob))
        have L_x := secB_len ob
        have gk : g6 ≠ g ∧ g6 ≠ mb := ⟨cb_differ kw dk.cb (by decide), fun e => by
          obtain ⟨es, c, q⟩ := dk.mp.obj
          unfold Cb at kw
          rw [e, q] at kw
          cases kw⟩
        have F11 : Hid (∀ s, Two g mb wr.drew s → Ext w s ∧ s.cell? ⟨b0, off + i * 4 + 1, none⟩ = some (.int .i64 oi) ∧ s.cell? ⟨b0, off + i * 4 + 2, none⟩ = some (.int .u8 (ob.toNat : Int)) ∧ Cb s g6 73 (W.map cellsOf).flatten) := fun s e => by
          have x := e.ext xr.drew wg wb
          obtain ⟨_, c1, c2, _⟩ := oc s x
          exact ⟨x, c1, c2, e.block kw gk.1 gk.2⟩
        have WR : Hid (∀ s, Ext wr.drew s → Calls Try.prog 23 #[.pointer (some ⟨g, 0, none⟩), .int .i64 oi, .agg (cellsOf (secB ob)).toArray] s fun e w' => e = .returned (.int .i64 (d.writeE oi)) ∧ DK w' g r mb (d.write oi (secB ob)) ∧ Two g mb s w') := fun s e => dwrite_calls (i := oi) (dk.ext ((Ext.refl wr).drew.trans e)) (secB_len ob)
        have OC : Hid (∀ s, Ext w s → s.cell? ⟨b0, off + i * 4 + 1, none⟩ = some (.int .i64 oi) ∧ s.cell? ⟨b0, off + i * 4 + 2, none⟩ = some (.int .u8 (ob.toNat : Int))) := fun s e => ⟨(oc s e).2.1, (oc s e).2.2.1⟩
        replace li := Lib.hid li
        clear oc dk h2 kw
        replace xr := Lib.hid xr
        go_upto_region 11 with fail
        clear c0 c1 c2
        refine wp_region_seq (R := Two g mb) (Two.refl _ _) (fun _ _ _ => Two.trans) [0, 1, 2, 3, 4, 5, 6, 7, 8, 9, 10, 11, 12, 13] [11, 12] [(0, 52, 32), (0, 53, 2), (0, 54, 256), (6, 55, 27021597764222976), (8, 56, 36028797018963968), (16, 57, 72057594037927936), (0, 58, 2), (0, 59, 256), (192, 60, 864691128455135232), (256, 61, 1152921504606846976), (512, 62, 2305843009213693952), (1024, 63, 4611686018427387904), (2081, 64, 9371990824558002176), (8191, 9, 18446744073709551616)] (by kernel_rfl) (by kernel_rfl) (by kernel_rfl) rfl (by kernel_rfl) (by kernel_rfl) (fun _ _ d _ _ h => by cases d <;> exact h) ?_
        generalize wr.drew = V at *
        repeat (first | (refine seq_read _ (fun w' e => And.intro (F11.out w' e).2.1 (F11.out w' e).2.2.1) _ (v := ?_) rfl rfl (by rfl) ?_ ?_; rotate_left; (· intro w' hF; go_simp; (try with_reducible rfl)); simp only [Act.put, List.setIfInBounds_toArray, List.set_cons_zero, List.set_cons_succ]) | (refine seq_skip _ rfl rfl (by rfl) ?_; simp only [Act.put, List.setIfInBounds_toArray, List.set_cons_zero, List.set_cons_succ]))
        refine seq_do _ rfl rfl (by rfl) (fun K hK => ?_)
        go_simp
        refine (OF.out V).mono ?_
        rintro e w4 ⟨rfl, x4⟩
        refine hK.out _ _ (Two.of_ext x4) ?_
        clear hK K
        try simp only [Act.put, List.setIfInBounds_toArray, List.set_cons_zero, List.set_cons_succ]
        have W4 := Lib.hid (WR.out w4 x4)
        clear WR
        repeat (first | (refine seq_read (fun _ => True) (fun _ _ => trivial) _ (v := ?_) rfl rfl (by rfl) ?_ ?_; rotate_left; (· intro w' hF; go_simp; (try with_reducible rfl)); simp only [Act.put, List.setIfInBounds_toArray, List.set_cons_zero, List.set_cons_succ]) | (refine seq_skip _ rfl rfl (by rfl) ?_; simp only [Act.put, List.setIfInBounds_toArray, List.set_cons_zero, List.set_cons_succ]))
        refine seq_do _ rfl rfl (by rfl) (fun K hK => ?_)
        go_simp
        refine W4.out.mono ?_
        rintro e w5 ⟨rfl, k5, t5⟩
        refine hK.out _ _ t5 ?_
        clear hK K
        try simp only [Act.put, List.setIfInBounds_toArray, List.set_cons_zero, List.set_cons_succ]
        obtain ⟨x5, _, _, kw5⟩ := F11.out w5 ((Two.of_ext x4).trans t5)
        clear W4 F11 x4 t5
        repeat (first | (refine seq_read (fun _ => True) (fun _ _ => trivial) _ (v := ?_) rfl rfl (by rfl) ?_ ?_; rotate_left; (· intro w' hF; go_simp; (try with_reducible rfl)); simp only [Act.put, List.setIfInBounds_toArray, List.set_cons_zero, List.set_cons_succ]) | (refine seq_skip _ rfl rfl (by rfl) ?_; simp only [Act.put, List.setIfInBounds_toArray, List.set_cons_zero, List.set_cons_succ]))
        refine seq_done ?_
        refine gen_q (fun W' => DK W' g r mb (d.write oi (secB ob)) ∧ Cb W' g6 73 (W.map cellsOf).flatten ∧ Ext w W') ⟨k5, kw5, x5⟩ ?_
        clear k5 kw5 x5
        rintro w6 ⟨k6, kw6, x6⟩
        obtain ⟨c1, c2⟩ := OC.out w6 x6
        have O6 := Lib.hid (fun s (e : Ext w6 s) => OC.out s (x6.trans e))
        have bl6 : b0 < w6.heap.size := World.block_lt_of_cell? w6 _ c1
        obtain ⟨inb, hinb⟩ : ∃ q, q = decide (0 ≤ oi ∧ oi < 8) := ⟨_, rfl⟩
        have HI : Hid ((inb = true → 0 ≤ oi ∧ oi < 8) ∧ (inb = false → ¬ (0 ≤ oi ∧ oi < 8))) := ⟨fun q => of_decide_eq_true (hinb.symm.trans q), fun q => of_decide_eq_false (hinb.symm.trans q)⟩
        replace k6 := Lib.hid k6
        replace kw6 := Lib.hid kw6
        replace x6 := Lib.hid x6
        go_upto_region 12 with fail
        go_cut [9] from 64 to 77 (fun s9 wx => s9 = .bool inb ∧ wx = w6)
        case first =>
          by_cases p1 : 0 ≤ oi
          · have v1 : decide (0 ≤ oi) = true := decide_eq_true p1
            by_cases p2 : oi < 8
            · have v2 : decide (oi < 8) = true := decide_eq_true p2
              go_wp2_with fail
              go_meet
              exact ⟨by rw [hinb, decide_eq_true (And.intro p1 p2)], rfl⟩
            · have v2 : decide (oi < 8) = false := decide_eq_false p2
              go_wp2_with fail
              go_meet
              exact ⟨by rw [hinb, decide_eq_false (fun q : 0 ≤ oi ∧ oi < 8 => by omega)], rfl⟩
          · have v1 : decide (0 ≤ oi) = false := decide_eq_false p1
            go_wp2_with fail
            go_meet
            exact ⟨by rw [hinb, decide_eq_false (fun q : 0 ≤ oi ∧ oi < 8 => by omega)], rfl⟩
        case rest =>
        obtain ⟨rfl, rfl⟩ := hcut
        clear hinb c1 c2
        -- behind the store, if there is one
        have EE : Hid (d.writeE oi = if inb then 0 else 1) := by
          unfold Hid
          cases inb with
          | true =>
            have q := HI.out.1 rfl
            obtain ⟨n, rfl⟩ : ∃ n : Nat, oi = (n : Int) := ⟨oi.toNat, by omega⟩
            exact (li.out.up.write_in (k := n) (by omega) []).2
          | false => exact (li.out.up.write_out (HI.out.2 rfl) []).2
        obtain ⟨ee, hee⟩ : ∃ q, q = d.writeE oi := ⟨_, rfl⟩
        rw [← hee] at EE ⊢
        clear hee
        go_upto_region 13 with fail
        go_cut [81] from 78 to 81 (fun s81 wx => s81 = .bool false ∧ wx = wc)
        case first =>
          cases inb with
          | true =>
            obtain rfl : ee = 0 := EE.out
            go_wp2_with fail
            go_meet
            exact ⟨rfl, rfl⟩
          | false =>
            obtain rfl : ee = 1 := EE.out
            go_wp2_with fail
            go_meet
            exact ⟨rfl, rfl⟩
        case rest =>
        obtain ⟨rfl, rfl⟩ := hcut
        clear EE
        go_upto_if 82 with fail
        go_cut [9] from 83 to 94 (fun s9 wx => ∃ W2, LI (d.write oi (secB ob)) W2 ∧ DK wx g r mb (d.write oi (secB ob)) ∧ Cb wx g6 73 (W2.map cellsOf).flatten ∧ Ext w wx)
        case first =>
          cases inb with
          | false =>
            have F : Hid (LI (d.write oi (secB ob)) W) := by unfold Hid; rw [(li.out.up.write_out (HI.out.2 rfl) _).1]; exact li.out
            clear li OF O6
            go_wp2_with fail
            go_meet
            exact ⟨W, F.out, k6.out, kw6.out, x6.out⟩
          | true =>
            have q := HI.out.1 rfl
            obtain ⟨n, rfl⟩ : ∃ n : Nat, oi = (n : Int) := ⟨oi.toNat, by omega⟩
            have n8 : n < 8 := by omega
            have lin := Lib.hid (li.out.put n8 L_x)
            have v3 : (0 : Int) ≤ (n : Int) := by omega
            have v4 : (n : Int) < 8 := by omega
            have S_x : (cellsOf (secB ob)).toArray.size = 64 := by simp [cellsOf_len, L_x]
            have O_x := one_cells (one_mem (secB ob))
            have HK : Hid (∀ s, wc.drew.grownBy s (some g6) → Cb s g6 73 (W.map cellsOf).flatten → Cb (s.setCells g6 (n * 64) (cellsOf (secB ob))) g6 73 ((W.set n (secB ob)).map cellsOf).flatten ∧ s.there g6 (n * 64) 64) := fun s _ h => put_rows h li.out.ws (by rw [li.out.wl]; exact n8) L_x
            have K16 : Hid (∀ s, wc.drew.grownBy s (some g6) → DK s g r mb (d.write (n : Int) (secB ob)) ∧ Ext w s) := fun s e => by
              refine ⟨k6.out.stay ?_ ?_ ?_, ?_⟩
              · exact e.block _ k6.out.cb.lt (fun z => gk.1 (Option.some.inj z).symm)
              · exact e.block _ k6.out.row.lt (fun z => cb_differ k6.out.row kw6.out (by decide) (Option.some.inj z))
              · exact e.block _ k6.out.mp.lt (fun z => gk.2 (Option.some.inj z).symm)
              · exact Two.ext (g := g6) (g' := g6) x6.out.drew ⟨e.os, e.tape, e.output, e.size, fun i hi q _ => e.block i hi (fun z => q (Option.some.inj z))⟩ wg6 wg6
            have A16 : Hid (∀ s, wc.drew.grownBy s (some g6) → s.cell? ⟨b0, off + i * 4 + 1, none⟩ = some (.int .i64 (n : Int)) ∧ s.cell? ⟨b0, off + i * 4 + 2, none⟩ = some (.int .u8 (ob.toNat : Int))) := fun s e => by
              have x : Ext w s := (K16.out s e).2
              exact OC.out s x
            have KW0 : Hid (Cb wc.drew g6 73 (W.map cellsOf).flatten) := kw6.out.ext (Ext.refl wc).drew
            clear li k6 kw6 x6 O6 HI
            go_upto_region 16 with fail
            refine wp_region_seq (R := fun a b => a.grownBy b (some g6)) (fun w => World.grownBy.refl w _) (fun _ _ _ => gr_trans) [0, 1, 2, 3, 4, 5, 6, 7, 8, 9, 10, 11, 12] [10, 12] [(0, 84, 2), (0, 85, 256), (3, 86, 58028439341502200385896448), (4, 87, 77371252455336267181195264), (8, 88, 154742504910672534362390528), (0, 89, 2), (0, 90, 256), (96, 91, 1856910058928070412348686336), (128, 92, 2475880078570760549798248448), (256, 93, 4951760157141521099596496896), (512, 94, 9903520314283042199192993792), (2047, 95, 309485009821345068724781184), (4095, 0, 59421121885698253195157962752)] (by kernel_rfl) (by kernel_rfl) (by kernel_rfl) rfl (by kernel_rfl) (by kernel_rfl) (fun _ _ d _ _ h => by cases d <;> exact h) ?_
            generalize wc.drew = V at *
            repeat (first | (refine seq_read _ (fun w' e => A16.out w' e) _ (v := ?_) rfl rfl (by rfl) ?_ ?_; rotate_left; (· intro w' hF; go_simp; (try with_reducible rfl)); simp only [Act.put, List.setIfInBounds_toArray, List.set_cons_zero, List.set_cons_succ]) | (refine seq_skip _ rfl rfl (by rfl) ?_; simp only [Act.put, List.setIfInBounds_toArray, List.set_cons_zero, List.set_cons_succ]))
            refine seq_do _ rfl rfl (by rfl) (fun K hK => ?_)
            go_simp
            refine (OF.out V).mono ?_
            rintro e w7 ⟨rfl, x7⟩
            refine hK.out _ _ (grown_ofE21 x7) ?_
            clear hK K
            try simp only [Act.put, List.setIfInBounds_toArray, List.set_cons_zero, List.set_cons_succ]
            have g7 := grown_ofE21 (g := g6) x7
            have kw7 := KW0.out.ext x7
            obtain ⟨p1, p2⟩ := HK.out w7 g7 kw7
            replace p2 := Lib.hid p2
            have f7 := K16.out _ (grown_trans' g7 (grown_setCells (w := w7) (g := g6) (o := n * 64) (vs := cellsOf (secB ob))))
            clear A16 HK K16 KW0 x7 g7 kw7 OF
            repeat (first | (refine seq_read (fun _ => True) (fun _ _ => trivial) _ (v := ?_) rfl rfl (by rfl) ?_ ?_; rotate_left; (· intro w' hF; go_simp; (try with_reducible rfl)); simp only [Act.put, List.setIfInBounds_toArray, List.set_cons_zero, List.set_cons_succ]) | (refine seq_skip _ rfl rfl (by rfl) ?_; simp only [Act.put, List.setIfInBounds_toArray, List.set_cons_zero, List.set_cons_succ]))
            refine seq_do _ rfl rfl (by rfl) (fun K hK => ?_)
            refine wp_store_mid 58 _ _ rfl g6 (n * 64) (cellsOf (secB ob)).toArray rfl rfl (by rw [S_x]; exact p2.out) (by rw [S_x]; rfl) O_x ?_
            refine hK.out _ _ grown_setCells ?_
            clear hK K
            try simp only [Act.put, List.setIfInBounds_toArray, List.set_cons_zero, List.set_cons_succ]
            repeat (first | (refine seq_read (fun _ => True) (fun _ _ => trivial) _ (v := ?_) rfl rfl (by rfl) ?_ ?_; rotate_left; (· intro w' hF; go_simp; (try with_reducible rfl)); simp only [Act.put, List.setIfInBounds_toArray, List.set_cons_zero, List.set_cons_succ]) | (refine seq_skip _ rfl rfl (by rfl) ?_; simp only [Act.put, List.setIfInBounds_toArray, List.set_cons_zero, List.set_cons_succ]))
            refine seq_done ?_
            replace p1 := Lib.hid p1
            replace f7 := Lib.hid f7
            go_wp2_with fail
            go_meet
            exact ⟨_, lin.out, f7.out.1, p1.out, f7.out.2⟩
        case rest =>
        obtain ⟨W2, li2, k7, kw7, x7⟩ := hcut
        clear li k6 kw6 x6 O6 HI OF
        replace li2 := Lib.hid li2
        have B7 : Hid (∀ s, Ext wc s → DK s g r mb (d.write oi (secB ob)) ∧ Cb s g6 73 (W2.map cellsOf).flatten ∧ Ext w s) := fun s e => ⟨k7.ext e, kw7.ext e, x7.trans e⟩
        clear k7 kw7 x7
        generalize d.write oi (secB ob) = d7 at *
        go_wp2_with fail
        go_loopw [10] (fun v wr => ∃ k : Nat, k ≤ 8 ∧ v = .int .i64 (k : Int) ∧ Ext wc wr) (fun v _ => 8 - (intOf v).toNat)
        case atStart => exact ⟨0, Nat.zero_le _, rfl, Ext.refl _⟩
        case round =>
          obtain ⟨k, hk8, rfl, xk⟩ := hrel
          obtain ⟨dk, kw, xw⟩ := B7.out _ xk
          by_cases hk : k < 8
          · have u5 : decide ((k : Int) < 8) = true := decide_eq_true (by omega)
            have u6 : (0 : Int) ≤ (k : Int) := by omega
            have u7 : (k : Int) < 8 := by omega
            have hk1 : IntKind.i64.wrap ((k : Int) + 1) = (k : Int) + 1 := IntWalk.i64_in _ (by omega)
            have RE := dread_calls (i := (k : Int)) dk
            rw [li2.out.rd k hk, (li2.out.up.read hk).2] at RE
            have YK := Lib.hid (fun s (e : Ext wr s) => row_at (B7.out s (xk.trans e)).2.1 li2.out.ws (k := k) (by rw [li2.out.wl]; exact hk))
            have L_y : (W2.getD k []).length = 64 := by rw [List.getD_eq_getElem?_getD, List.getElem?_eq_getElem (by rw [li2.out.wl]; exact hk), Option.getD_some]; exact li2.out.ws _ (List.getElem_mem _)
            replace RE := Lib.hid RE
            generalize W2.getD k [] = ys at *
            have C_y : (cellsOf ys).length = 64 := by rw [cellsOf_len, L_y]
            have S_y : (cellsOf ys).toArray.size = 64 := by rw [List.size_toArray, C_y]
            have O_y := one_cells (one_mem ys)
            clear dk kw xw
            replace xk := Lib.hid xk
            go_wp2_with fail
            refine RE.out.mono ?_
            rintro e w8 ⟨rfl, x8⟩
            have K8 : Hid (Cb ((w8.alloc (.cells ZL.toArray 58)).setRow w8.heap.size (cellsOf ys).toArray) w8.heap.size 58 (cellsOf ys) ∧ Ext wr ((w8.alloc (.cells ZL.toArray 58)).setRow w8.heap.size (cellsOf ys).toArray)) := ⟨(Cb.new w8 _ ZL).set, x8.trans (Ext.newRow _ _ _)⟩
            clear RE x8
            go_upto_region 21 with (refine wpList_store_row rfl 58 _ _ rfl w8.heap.size (cellsOf ys).toArray rfl rfl 58 ZL.toArray (heap_alloc_new _ _) (by rw [S_y]; rfl) (by rw [S_y, S_ZL]) O_y ?_; simp only [Act.put])
            refine wp_gen (fun W => Cb W w8.heap.size 58 (cellsOf ys) ∧ Ext wr W) K8.out ?_
            generalize w8.heap.size = g11 at *
            clear K8 w8
            rintro w9 ⟨k9, x9⟩
            have F9 : Hid (∀ s, Ext w9 s → Cb s g11 58 (cellsOf ys) ∧ ∀ j v, (cellsOf ys)[j]? = some v → s.cell? ⟨g6, k * 64 + j, none⟩ = some v) := fun s e => ⟨k9.ext e, YK.out s (x9.trans e)⟩
            have X9 : Hid (Ext wc w9) := xk.out.trans x9
            clear k9 x9 YK
            refine wp_region_seq (R := Ext) Ext.refl (fun _ _ _ => Ext.trans) [0, 1, 2, 3, 4, 5, 6, 7, 8] [] [(0, 106, 8192), (1, 107, 81129638414606681695789005144064), (2, 108, 162259276829213363391578010288128), (4, 109, 324518553658426726783156020580352), (4, 110, 324518553658426726783156020578304), (20, 111, 1622592768292133633915780102881408), (36, 112, 2920666982925840541048404185186304), (76, 113, 6165852519510107808879964390948864), (132, 114, 10709112270728081983844148679016448)] (by kernel_rfl) (by kernel_rfl) (by kernel_rfl) rfl (by kernel_rfl) (by kernel_rfl) (fun _ _ d _ _ h => by cases d <;> exact h) ?_
            repeat (first | (refine seq_read (fun _ => True) (fun _ _ => trivial) _ (v := ?_) rfl rfl (by rfl) ?_ ?_; rotate_left; (· intro w' hF; go_simp; (try with_reducible rfl)); simp only [Act.put, List.setIfInBounds_toArray, List.set_cons_zero, List.set_cons_succ]) | (refine seq_skip _ rfl rfl (by rfl) ?_; simp only [Act.put, List.setIfInBounds_toArray, List.set_cons_zero, List.set_cons_succ]))
            refine seq_read (fun w' => w'.heap[g11]? = some (.cells (cellsOf ys).toArray 58 (0, 0))) (fun w' e => (F9.out w' (Ext.trans (Ext.refl _).drew e)).1) _ (v := .agg (cellsOf ys).toArray) rfl rfl (by rfl) (fun w' hF => exec_load_row rfl rfl hF rfl rfl (by rw [S_y]; rfl)) ?_
            simp only [Act.put, List.setIfInBounds_toArray, List.set_cons_zero, List.set_cons_succ]
            repeat (first | (refine seq_read (fun _ => True) (fun _ _ => trivial) _ (v := ?_) rfl rfl (by rfl) ?_ ?_; rotate_left; (· intro w' hF; go_simp; (try with_reducible rfl)); simp only [Act.put, List.setIfInBounds_toArray, List.set_cons_zero, List.set_cons_succ]) | (refine seq_skip _ rfl rfl (by rfl) ?_; simp only [Act.put, List.setIfInBounds_toArray, List.set_cons_zero, List.set_cons_succ]))
            refine seq_read (fun w' => ∀ q_ v, (cellsOf ys)[q_]? = some v → w'.cell? ⟨g6, (k * 64) + q_, none⟩ = some v) (fun w' e => (F9.out w' (Ext.trans (Ext.refl _).drew e)).2) _ (v := .agg (cellsOf ys).toArray) rfl rfl (by rfl) (fun w' hF => exec_load_mid rfl rfl hF rfl rfl (by rw [C_y]; rfl)) ?_
            simp only [Act.put, List.setIfInBounds_toArray, List.set_cons_zero, List.set_cons_succ]
            refine seq_read (fun _ => True) (fun _ _ => trivial) _ (v := .bool false) rfl rfl (by rfl) (fun w' _ => exec_neq_sector (xs := ys) (ys := ys) (by simp) L_y L_y rfl rfl rfl) ?_
            simp only [Act.put, List.setIfInBounds_toArray, List.set_cons_zero, List.set_cons_succ]
            repeat (first | (refine seq_read (fun _ => True) (fun _ _ => trivial) _ (v := ?_) rfl rfl (by rfl) ?_ ?_; rotate_left; (· intro w' hF; go_simp; (try with_reducible rfl)); simp only [Act.put, List.setIfInBounds_toArray, List.set_cons_zero, List.set_cons_succ]) | (refine seq_skip _ rfl rfl (by rfl) ?_; simp only [Act.put, List.setIfInBounds_toArray, List.set_cons_zero, List.set_cons_succ]))
            refine seq_done ?_
            have X2 : Hid (Ext wc w9.drew) := X9.out.drew
            clear F9 X9
            go_wp2_with fail
            go_round
            case rel => exact ⟨k + 1, by omega, by go_num, X2.out⟩
            case measure => simp [intOf]; omega
          · obtain rfl : k = 8 := by omega
            replace dk := Lib.hid dk
            replace kw := Lib.hid kw
            replace xw := Lib.hid xw
            clear B7
            rw [show ((8 : Nat) : Int) = 8 from rfl]
            go_wp2_with fail
            go_round
            case rel => exact ⟨i + 1, mb, _, W2, by omega, by go_num, dk.out, li2.out, kw.out, wb, xw.out⟩
            case measure => simp [intOf]; omega
    · obtain rfl : i = len := by omega
      have CR := Lib.hid (dcrash_calls (kept := 18446744073709551615) dk (by omega))
      have gk : g6 ≠ g ∧ g6 ≠ r := ⟨cb_differ kw dk.cb (by decide), cb_differ kw dk.row (by decide)⟩
      have UPC := crash_up li.up.1 18446744073709551615
      have RDC : Hid (∀ k : Nat, k < 8 → (d.crash 18446744073709551615).read (k : Int) = W.getD k [] ∧ (d.crash 18446744073709551615).readE (k : Int) = 0) := fun k hk => ⟨(li.up.crash_ones (by omega) hk).trans (li.rd k hk), (UPC.read hk).2⟩
      have WL := li.wl
      have WS := Lib.hid li.ws
      replace kw := Lib.hid kw
      replace xr := Lib.hid xr
      clear dk li OA UPC
      generalize d.crash 18446744073709551615 = d2 at *
      go_wp2_with fail
      refine CR.out.mono ?_
      rintro e w4 ⟨rfl, mb4, k4, _, t4⟩
      have B7 : Hid (∀ s, Ext w4 s → DK s g r mb4 d2 ∧ Cb s g6 73 (W.map cellsOf).flatten ∧ Ext w s) := fun s e => ⟨k4.ext e, Cb.ext (t4.block kw.out gk.1 gk.2) e, (t4.ext xr.out wg wrr).trans e⟩
      clear CR k4 t4 kw xr
      go_wp2_with fail
      go_loopw [13] (fun v wr => ∃ k : Nat, k ≤ 8 ∧ v = .int .i64 (k : Int) ∧ Ext w4 wr) (fun v _ => 8 - (intOf v).toNat)
      case atStart => exact ⟨0, Nat.zero_le _, rfl, Ext.refl _⟩
      case round =>
        obtain ⟨k, hk8, rfl, xk⟩ := hrel
        obtain ⟨dk, kw, xw⟩ := B7.out _ xk
        by_cases hk : k < 8
        · have u5 : decide ((k : Int) < 8) = true := decide_eq_true (by omega)
          have u6 : (0 : Int) ≤ (k : Int) := by omega
          have u7 : (k : Int) < 8 := by omega
          have hk1 : IntKind.i64.wrap ((k : Int) + 1) = (k : Int) + 1 := IntWalk.i64_in _ (by omega)
          have RE := dread_calls (i := (k : Int)) dk
          rw [(RDC.out k hk).1, (RDC.out k hk).2] at RE
          have YK := Lib.hid (fun s (e : Ext wr s) => row_at (B7.out s (xk.trans e)).2.1 WS.out (k := k) (by rw [WL]; exact hk))
          have L_y : (W.getD k []).length = 64 := by rw [List.getD_eq_getElem?_getD, List.getElem?_eq_getElem (by rw [WL]; exact hk), Option.getD_some]; exact WS.out _ (List.getElem_mem _)
          replace RE := Lib.hid RE
          generalize W.getD k [] = ys at *
          have C_y : (cellsOf ys).length = 64 := by rw [cellsOf_len, L_y]
          have S_y : (cellsOf ys).toArray.size = 64 := by rw [List.size_toArray, C_y]
          have O_y := one_cells (one_mem ys)
          clear dk kw xw
          replace xk := Lib.hid xk
          go_wp2_with fail
          refine RE.out.mono ?_
          rintro e w8 ⟨rfl, x8⟩
          have K8 : Hid (Cb ((w8.alloc (.cells ZL.toArray 58)).setRow w8.heap.size (cellsOf ys).toArray) w8.heap.size 58 (cellsOf ys) ∧ Ext wr ((w8.alloc (.cells ZL.toArray 58)).setRow w8.heap.size (cellsOf ys).toArray)) := ⟨(Cb.new w8 _ ZL).set, x8.trans (Ext.newRow _ _ _)⟩
          clear RE x8
          go_upto_region 28 with (refine wpList_store_row rfl 58 _ _ rfl w8.heap.size (cellsOf ys).toArray rfl rfl 58 ZL.toArray (heap_alloc_new _ _) (by rw [S_y]; rfl) (by rw [S_y, S_ZL]) O_y ?_; simp only [Act.put])
          refine wp_gen (fun W => Cb W w8.heap.size 58 (cellsOf ys) ∧ Ext wr W) K8.out ?_
          generalize w8.heap.size = g11 at *
          clear K8 w8
          rintro w9 ⟨k9, x9⟩
          have F9 : Hid (∀ s, Ext w9 s → Cb s g11 58 (cellsOf ys) ∧ ∀ j v, (cellsOf ys)[j]? = some v → s.cell? ⟨g6, k * 64 + j, none⟩ = some v) := fun s e => ⟨k9.ext e, YK.out s (x9.trans e)⟩
          have X9 : Hid (Ext w4 w9) := xk.out.trans x9
          clear k9 x9 YK
          refine wp_region_seq (R := Ext) Ext.refl (fun _ _ _ => Ext.trans) [0, 1, 2, 3, 4] [] [(0, 127, 32768), (0, 128, 16384), (2, 129, 340282366920938463463374607431768211584), (4, 130, 680564733841876926926749214863536422912), (9, 131, 1531270651144223085585185733442956951552)] (by kernel_rfl) (by kernel_rfl) (by kernel_rfl) rfl (by kernel_rfl) (by kernel_rfl) (fun _ _ d _ _ h => by cases d <;> exact h) ?_
          refine seq_read (fun w' => w'.heap[g11]? = some (.cells (cellsOf ys).toArray 58 (0, 0))) (fun w' e => (F9.out w' (Ext.trans (Ext.refl _).drew e)).1) _ (v := .agg (cellsOf ys).toArray) rfl rfl (by rfl) (fun w' hF => exec_load_row rfl rfl hF rfl rfl (by rw [S_y]; rfl)) ?_
          simp only [Act.put, List.setIfInBounds_toArray, List.set_cons_zero, List.set_cons_succ]
          repeat (first | (refine seq_read (fun _ => True) (fun _ _ => trivial) _ (v := ?_) rfl rfl (by rfl) ?_ ?_; rotate_left; (· intro w' hF; go_simp; (try with_reducible rfl)); simp only [Act.put, List.setIfInBounds_toArray, List.set_cons_zero, List.set_cons_succ]) | (refine seq_skip _ rfl rfl (by rfl) ?_; simp only [Act.put, List.setIfInBounds_toArray, List.set_cons_zero, List.set_cons_succ]))
          refine seq_read (fun w' => ∀ q_ v, (cellsOf ys)[q_]? = some v → w'.cell? ⟨g6, (k * 64) + q_, none⟩ = some v) (fun w' e => (F9.out w' (Ext.trans (Ext.refl _).drew e)).2) _ (v := .agg (cellsOf ys).toArray) rfl rfl (by rfl) (fun w' hF => exec_load_mid rfl rfl hF rfl rfl (by rw [C_y]; rfl)) ?_
          simp only [Act.put, List.setIfInBounds_toArray, List.set_cons_zero, List.set_cons_succ]
          refine seq_read (fun _ => True) (fun _ _ => trivial) _ (v := .bool false) rfl rfl (by rfl) (fun w' _ => exec_neq_sector (xs := ys) (ys := ys) (by simp) L_y L_y rfl rfl rfl) ?_
          simp only [Act.put, List.setIfInBounds_toArray, List.set_cons_zero, List.set_cons_succ]
          refine seq_done ?_
          have X2 : Hid (Ext w4 w9.drew) := X9.out.drew
          clear F9 X9
          go_wp2_with fail
          go_round
          case rel => exact ⟨k + 1, by omega, by go_num, X2.out⟩
          case measure => simp [intOf]; omega
        · obtain rfl : k = 8 := by omega
          replace xw := Lib.hid xw
          clear B7 dk kw
          go_wp2_with fail
          go_ret
          exact ⟨rfl, xw.out⟩
end Go.Proofs.Ytonjialkfbbhpaa
