/-
  The law DiskPlays.
-/
import Derived.Test.YtonjialkfbbhpaaAwake21
import Derived.Deep.DeepCutAuto
import Derived.Deep.CutBlock
namespace Go.Proofs.Ytonjialkfbbhpaa
open Go.ChangeShapes Go.WideShapes Go.ChangeAt Go.RowKit Go.Deep Go.Maps
set_option maxRecDepth 100000

theorem o21_alloc (w : World) : (zeroValue 55).run Try.prog w = .ok (.agg (⟨0, 0, 0, 0⟩ : O21).C.toArray) w := by kernel_rfl
/-- The disk and the document's, side by side. -/
def BD (w : World) (g r mb g' r' m' i' : Nat) (d : Ds) : Prop := DK w g r mb d ∧ ∃ X, RD w g' r' m' i' d X
theorem BD.ext {w w' : World} {g r mb g' r' m' i' : Nat} {d : Ds} (h : BD w g r mb g' r' m' i' d) (e : Ext w w') : BD w' g r mb g' r' m' i' d := ⟨h.1.ext e, h.2.choose, h.2.choose_spec.ext e⟩
theorem RD.two {w w' : World} {g r mb g' r' m' i' : Nat} {d d' : Ds} {X : List (List UInt8)} (h : RD w g' r' m' i' d X) (k : DK w g r mb d') {a b : Nat} (ha : a = g ∨ a = r ∨ a = mb) (hb : b = g ∨ b = r ∨ b = mb) (t : Two a b w w') : RD w' g' r' m' i' d X := by
  obtain ⟨⟨a1, a2, a3⟩, ⟨b1, b2, b3⟩, ⟨c1, c2, c3⟩, ⟨d1, d2, d3⟩⟩ := k.apart h
  refine h.stay (t.2.2.2.2 _ h.cb.lt ?_ ?_) (t.2.2.2.2 _ h.sr.lt ?_ ?_) (t.2.2.2.2 _ h.nr.lt ?_ ?_) (t.2.2.2.2 _ h.ir.lt ?_ ?_)
  · rcases ha with rfl | rfl | rfl <;> assumption
  · rcases hb with rfl | rfl | rfl <;> assumption
  · rcases ha with rfl | rfl | rfl <;> assumption
  · rcases hb with rfl | rfl | rfl <;> assumption
  · rcases ha with rfl | rfl | rfl <;> assumption
  · rcases hb with rfl | rfl | rfl <;> assumption
  · rcases ha with rfl | rfl | rfl <;> assumption
  · rcases hb with rfl | rfl | rfl <;> assumption
theorem DK.ot {w w' : World} {g r mb g' r' m' i' : Nat} {d d' : Ds} {X : List (List UInt8)} (k : DK w g r mb d') (h : RD w g' r' m' i' d X) (t : Ot (Rp g' r' m' i') w w') : DK w' g r mb d' := by
  obtain ⟨⟨a1, a2, a3⟩, ⟨b1, b2, b3⟩, ⟨c1, c2, c3⟩, ⟨d1, d2, d3⟩⟩ := k.apart h
  refine k.stay (t.same k.cb.lt ?_) (t.same k.row.lt ?_) (t.same k.mp.lt ?_)
  · rintro (q | q | q | q)
    · exact a1 q.symm
    · exact b1 q.symm
    · exact c1 q.symm
    · exact d1 q.symm
  · rintro (q | q | q | q)
    · exact a2 q.symm
    · exact b2 q.symm
    · exact c2 q.symm
    · exact d2 q.symm
  · rintro (q | q | q | q)
    · exact a3 q.symm
    · exact b3 q.symm
    · exact c3 q.symm
    · exact d3 q.symm
/-- The blocks of both. -/
def Bp (g r mb g' r' m' i' : Nat) (b : Nat) : Prop := (b = g ∨ b = r ∨ b = mb) ∨ Rp g' r' m' i' b
theorem BD.np {w : World} {g r mb g' r' m' i' r7 : Nat} {d : Ds} {C : List Value} (h : BD w g r mb g' r' m' i' d) (k : Cb w r7 55 C) : (r7 ≠ g ∧ r7 ≠ r ∧ r7 ≠ mb) ∧ ¬ Rp g' r' m' i' r7 := by
  obtain ⟨dk, X, rd⟩ := h
  refine ⟨⟨cb_differ k dk.cb (by decide), cb_differ k dk.row (by decide), fun e => ?_⟩, ?_⟩
  · obtain ⟨es, c, q⟩ := dk.mp.obj
    unfold Cb at k
    rw [e, q] at k
    cases k
  · rintro (q | q | q | q)
    · exact cb_differ k rd.cb (by decide) q
    · exact cb_differ k rd.sr (by decide) q
    · exact cb_differ k rd.nr (by decide) q
    · exact cb_differ k rd.ir (by decide) q
theorem Rp.ge {B g r m i : Nat} (h1 : B ≤ g) (h2 : B ≤ r) (h3 : B ≤ m) (h4 : B ≤ i) : ∀ b, Rp g r m i b → B ≤ b := fun b h => by
  rcases h with rfl | rfl | rfl | rfl <;> assumption
theorem read_len {d : Ds} (ok : d.ok) (i : Int) : (d.read i).length = 64 := by
  unfold Ds.read
  split
  · rename_i h
    have hl : i.toNat < d.S.length := by omega
    cases q : d.N i.toNat
    · rw [show (none : Option (List UInt8)).getD (d.S.getD i.toNat []) = d.S.getD i.toNat [] from rfl, List.getD_eq_getElem?_getD, List.getElem?_eq_getElem hl, Option.getD_some]
      exact ok.sl _ (List.getElem_mem hl)
    · exact (ok.nl _ _ q).1
  · rfl
set_option maxHeartbeats 16000000 in
theorem plays21_calls {w : World} {z : Int} {LO : List O21} {A : Option Addr} {len cap : Nat} (hl : Cs w 4 A len cap (LO.map O21.C)) (ol : ∀ o ∈ LO, o.ok) :
    Calls Try.prog 8 #[.int .i64 z, .slice A len cap] w fun e w' => e = .returned (.bool true) ∧ Ext w w' := by
  have AW := Lib.hid (fun (W : World) => awake21_calls (w := W))
  have OA := Lib.hid (fun i (hi : i < len) => o21_all hl ol hi)
  have hal1 := o21_alloc
  have hal2 := sector_alloc
  have hal3 := rsector_alloc
  have ZOL : (⟨0, 0, 0, 0⟩ : O21).C.length = 4 := rfl
  have q1 := hl.2.1
  have q2 : cap ≤ 9223372036854775807 := by have := q1.2; unfold maxLen at this; omega
  have Lz := zS64_len
  generalize (⟨0, 0, 0, 0⟩ : O21).C = ZO at *
  generalize zS64 = ZL at *
  have S_ZO : ZO.toArray.size = 4 := by rw [List.size_toArray, ZOL]
  have S_ZL : ZL.toArray.size = 64 := by rw [List.size_toArray, Lz]
  clear hl ol
  by_cases hm : z < 1 ∨ 64 < z
  · have NB := Lib.hid (fun (W : World) => dnew_bad (w := W) hm)
    have RB := Lib.hid (fun (W : World) => rnew_bad (w := W) hm)
    go_enter Try.func8, Try.ntmps8
    go_wp2_with fail
    refine (AW.out _).mono ?_
    rintro e w1 ⟨rfl, x1⟩
    have NB1 := Lib.hid (NB.out w1)
    replace x1 := Lib.hid x1
    clear AW NB OA
    go_wp2_with fail
    refine NB1.out.mono ?_
    rintro e w2 ⟨rfl, x2⟩
    have RB2 := Lib.hid (RB.out w2)
    have X2 : Hid (Ext w w2) := x1.out.trans x2
    clear NB1 RB x1 x2
    go_wp2_with fail
    refine RB2.out.mono ?_
    rintro e w3 ⟨rfl, x3⟩
    have X3 : Hid (Ext w w3) := X2.out.trans x3
    clear RB2 X2 x3
    go_wp2_with fail
    go_loopw [10] (fun v wr => v = .int .i64 0 ∧ Ext w wr) (fun _ _ => 0)
    case atStart => exact ⟨rfl, X3.out⟩
    case round =>
      obtain ⟨rfl, xr⟩ := hrel
      clear X3
      replace xr := Lib.hid xr
      by_cases h0 : 0 < len
      · have u1 : decide ((0 : Int) < (len : Int)) = true := decide_eq_true (by omega)
        go_wp2_with fail
        go_ret
        exact ⟨rfl, xr.out⟩
      · have u1 : decide ((0 : Int) < (len : Int)) = false := decide_eq_false (by omega)
        go_wp2_with fail
        go_ret
        exact ⟨rfl, xr.out⟩
  obtain ⟨n, rfl⟩ : ∃ n : Nat, z = (n : Int) := ⟨z.toNat, by omega⟩
  have NW := Lib.hid (fun (W : World) => dnew_ok (w := W) (n := n) (by omega) (by omega))
  have RW := Lib.hid (fun (W : World) => rnew_ok (w := W) (n := n) (by omega) (by omega))
  clear hm
  go_enter Try.func8, Try.ntmps8
  go_wp2_with fail
  refine (AW.out _).mono ?_
  rintro e w1 ⟨rfl, x1⟩
  have NW1 := Lib.hid (NW.out w1)
  replace x1 := Lib.hid x1
  clear AW NW
  go_wp2_with fail
  refine NW1.out.mono ?_
  rintro e w2 ⟨g, r, mb0, rfl, wg, wrr, wb, k2, x2⟩
  have RW2 := Lib.hid (RW.out w2)
  have X2 : Hid (Ext w w2) := x1.out.trans x2
  have gs := x1.out.size
  replace wg : w.heap.size ≤ g := Nat.le_trans gs wg
  replace wrr : w.heap.size ≤ r := Nat.le_trans gs wrr
  replace wb : w.heap.size ≤ mb0 := Nat.le_trans gs wb
  replace k2 := Lib.hid k2
  clear NW1 RW x1 x2 gs
  go_wp2_with fail
  refine RW2.out.mono ?_
  rintro e w3 ⟨g', r', m', i', X3, rfl, ⟨wg', wr', wm', wi'⟩, rd3, x3⟩
  have gs := X2.out.size
  replace wg' : w.heap.size ≤ g' := Nat.le_trans gs wg'
  replace wr' : w.heap.size ≤ r' := Nat.le_trans gs wr'
  replace wm' : w.heap.size ≤ m' := Nat.le_trans gs wm'
  replace wi' : w.heap.size ≤ i' := Nat.le_trans gs wi'
  have K3 : Hid (BD w3 g r mb0 g' r' m' i' (newD n) ∧ Ext w w3) := ⟨⟨k2.out.ext x3, X3, rd3⟩, X2.out.trans x3⟩
  clear RW2 k2 X2 x3 rd3 gs
  go_wp2_with fail
  go_loopw [10] (fun v wr => ∃ (i mb : Nat) (d : Ds), i ≤ len ∧ i ≤ 120 ∧ v = .int .i64 (i : Int) ∧ BD wr g r mb g' r' m' i' d ∧ w.heap.size ≤ mb ∧ Ext w wr) (fun v _ => len - (intOf v).toNat)
  case atStart => exact ⟨0, mb0, _, Nat.zero_le _, by omega, rfl, K3.out.1, wb, K3.out.2⟩
  case round =>
    clear K3 wb
    obtain ⟨i, mb, d, hi, hi2, rfl, bd, wb, xr⟩ := hrel
    by_cases hlt : i < len
    case neg =>
      obtain rfl : i = len := by omega
      clear bd OA
      replace xr := Lib.hid xr
      go_wp2_with fail
      go_ret
      exact ⟨rfl, xr.out⟩
    by_cases h120 : i < 120
    case neg =>
      have u1 : decide ((i : Int) < 120) = false := decide_eq_false (by omega)
      clear bd OA
      replace xr := Lib.hid xr
      go_wp2_with fail
      go_ret
      exact ⟨rfl, xr.out⟩
    have u1 : decide ((i : Int) < 120) = true := decide_eq_true (by omega)
    obtain ⟨b0, off, o, rfl, _, hok, oc⟩ := OA.out i hlt
    have M0 := Lib.hid (oc wr xr)
    have L_O : o.C.length = 4 := rfl
    have S_O : o.C.toArray.size = 4 := by rw [List.size_toArray, L_O]
    have O_O : o.C.toArray.all (·.oneCell') = true := one_cells (fun v hv => by
      simp only [O21.C, List.mem_cons, List.not_mem_nil, or_false] at hv
      rcases hv with rfl | rfl | rfl | rfl <;> rfl)
    have K7 : Hid (Cb ((wr.alloc (.cells ZO.toArray 55)).setRow wr.heap.size o.C.toArray) wr.heap.size 55 o.C ∧ BD ((wr.alloc (.cells ZO.toArray 55)).setRow wr.heap.size o.C.toArray) g r mb g' r' m' i' d ∧ Ext w ((wr.alloc (.cells ZO.toArray 55)).setRow wr.heap.size o.C.toArray)) :=
      ⟨(Cb.new wr _ ZO).set, bd.ext (Ext.newRow _ _ _), xr.trans (Ext.newRow _ _ _)⟩
    have gsz := dk_lt bd.1
    have rsz : g' < wr.heap.size ∧ r' < wr.heap.size ∧ m' < wr.heap.size ∧ i' < wr.heap.size := by
      obtain ⟨X, q⟩ := bd.2
      exact ⟨q.cb.lt, q.sr.lt, q.nr.lt, q.ir.lt⟩
    have hwi : IntKind.i64.wrap ((i : Int) + 1) = (i : Int) + 1 := IntWalk.i64_in _ (by omega)
    clear oc bd xr OA
    obtain ⟨OC, hOC⟩ : ∃ OC, OC = o.C := ⟨_, rfl⟩
    rw [← hOC] at M0 L_O S_O O_O K7
    replace hOC := Lib.hid hOC
    go_upto_region 10 with (first
      | ((with_reducible refine wpList_load_mid (o := ⟨some 56, _, _, _, _, _⟩) (ty := 55) (g := b0) (off := off + i * 4) (ys := OC) ?_ rfl ?_ ?_ Try.underlying55 ?_ ?_ ?_); (· rfl); (· rfl); (· exact M0.out); (· rfl); (· rw [L_O]; rfl); simp only [Act.put, List.setIfInBounds_toArray, List.set_cons_zero, List.set_cons_succ])
      | (refine wpList_store_row rfl 55 _ _ rfl wr.heap.size OC.toArray rfl rfl 55 ZO.toArray (heap_alloc_new _ _) (by rw [S_O]; rfl) (by rw [S_O, S_ZO]) O_O ?_; simp only [Act.put]))
    refine wp_gen (fun W => Cb W wr.heap.size 55 OC ∧ BD W g r mb g' r' m' i' d ∧ Ext w W) K7.out ?_
    generalize wr.heap.size = r7 at *
    clear K7 M0 wr
    rintro u ⟨k7, bd, xu⟩
    rw [hOC.out] at k7
    clear hOC L_O S_O O_O
    obtain ⟨od, oi, ob, kept⟩ := o
    obtain ⟨hoi, hk⟩ := hok
    dsimp only at hoi hk
    have c0 : u.cell? ⟨r7, 0, none⟩ = some (.int .i64 od) := k7.cell rfl
    have T7 : Hid (∀ s, Cb s r7 55 (⟨od, oi, ob, kept⟩ : O21).C → s.cell? ⟨r7, 1, none⟩ = some (.int .i64 oi) ∧ s.cell? ⟨r7, 2, none⟩ = some (.int .u8 (ob.toNat : Int)) ∧ s.cell? ⟨r7, 3, none⟩ = some (.int .u64 (kept : Int))) := fun s kc => ⟨kc.cell rfl, kc.cell rfl, kc.cell rfl⟩
    replace k7 := Lib.hid k7
    replace bd := Lib.hid bd
    replace xu := Lib.hid xu
    generalize (⟨od, oi, ob, kept⟩ : O21).C = OCC at *
    go_upto_block 2 with fail
    go_cut [12] from 57 to 101 (fun s12 wx => s12 = .bool true ∧ ∃ (mb : Nat) (d : Ds), BD wx g r mb g' r' m' i' d ∧ w.heap.size ≤ mb ∧ Cb wx r7 55 OCC ∧ Ext w wx)
    case first =>
      have RPG := Lib.hid (Rp.ge wg' wr' wm' wi')
      -- the second half: the document's call
      have END : Hid (∀ s1 s2 mb1 d1, DK s1 g r mb1 d1 → (∃ X, RD s1 g' r' m' i' d X) → (∃ X, RD s2 g' r' m' i' d1 X) → Ot (Rp g' r' m' i') s1 s2 → Cb s1 r7 55 OCC → Ext w s1 → w.heap.size ≤ mb1 → BD s2 g r mb1 g' r' m' i' d1 ∧ w.heap.size ≤ mb1 ∧ Cb s2 r7 55 OCC ∧ Ext w s2) := fun s1 s2 mb1 d1 k1 ⟨X, r1⟩ r2 t c x wm1 => by
        have np := (BD.np (C := OCC) (d := d) (g := g) (r := r) (mb := mb) bd.out k7.out).2
        exact ⟨⟨k1.ot r1 t, r2⟩, wm1, t.block c np, t.ext x RPG.out⟩
      have MID : Hid (∀ s1 s2 a b, (a = g ∨ a = r ∨ a = mb) → (b = g ∨ b = r ∨ b = mb) → (∃ X, RD s1 g' r' m' i' d X) → DK s1 g r mb d → Cb s1 r7 55 OCC → Ext w s1 → Two a b s1 s2 → (∃ X, RD s2 g' r' m' i' d X) ∧ Cb s2 r7 55 OCC ∧ Ext w s2) := fun s1 s2 a b ha hb ⟨X, r1⟩ k c x t => by
        obtain ⟨n1, n2, n3⟩ := (BD.np (C := OCC) ⟨k, X, r1⟩ c).1
        refine ⟨⟨X, r1.two k ha hb t⟩, t.block c ?_ ?_, t.ext x ?_ ?_⟩
        · rcases ha with rfl | rfl | rfl <;> assumption
        · rcases hb with rfl | rfl | rfl <;> assumption
        · rcases ha with rfl | rfl | rfl <;> assumption
        · rcases hb with rfl | rfl | rfl <;> assumption
      by_cases h2 : od = 2
      · subst h2
        have SY := Lib.hid (sync_calls bd.out.1)
        clear T7
        go_wp2_with fail
        refine SY.out.mono ?_
        rintro e w4 ⟨rfl, mb4, k4, h4, t4⟩
        obtain ⟨r4, c4, x4⟩ := MID.out u w4 g r (.inl rfl) (.inr (.inl rfl)) bd.out.2 bd.out.1 k7.out xu.out t4
        have wb4 : w.heap.size ≤ mb4 := by have := xu.out.size; omega
        obtain ⟨X4, r4⟩ := r4
        have RS := Lib.hid (rsync_calls r4)
        have E4 := Lib.hid (fun s2 (q : ∃ X, RD s2 g' r' m' i' d.sync X) (t : Ot (Rp g' r' m' i') w4 s2) => END.out w4 s2 mb4 d.sync k4 ⟨X4, r4⟩ q t c4 x4 wb4)
        replace RS : Hid (Calls Try.prog 27 #[.pointer (some ⟨g', 0, none⟩)] w4 fun e w' => e = .returned (.int .i64 d.syncE) ∧ RD w' g' r' m' i' d.sync X4 ∧ Ot (Rp g' r' m' i') w4 w') := RS
        clear SY MID END t4 r4 c4 x4 k4 h4 bd k7 xu c0
        generalize d.syncE = ee at *
        go_wp2_with fail
        refine RS.out.mono ?_
        rintro e w5 ⟨rfl, r5, t5⟩
        have F := Lib.hid (E4.out w5 ⟨X4, r5⟩ t5)
        clear RS E4 r5 t5
        go_wp2_with fail
        go_meet
        exact ⟨rfl, _, _, F.out⟩
      by_cases h3 : od = 3
      · subst h3
        obtain ⟨c1, _, _⟩ := T7.out u k7.out
        have FU := Lib.hid (dfuse_calls bd.out.1 hoi)
        clear h2
        go_wp2_with fail
        refine FU.out.mono ?_
        rintro e w4 ⟨rfl, k4, g4⟩
        have t4 : Two g g u w4 := ⟨g4.os, g4.tape, g4.output, g4.size, fun i hi q _ => g4.block i hi (fun z => q (Option.some.inj z))⟩
        obtain ⟨⟨X4, r4⟩, c4, x4⟩ := MID.out u w4 g g (.inl rfl) (.inl rfl) bd.out.2 bd.out.1 k7.out xu.out t4
        obtain ⟨c1_, _, _⟩ := T7.out w4 c4
        have RS := Lib.hid (rfuse_calls r4 hoi)
        have E4 := Lib.hid (fun s2 (q : ∃ X, RD s2 g' r' m' i' (d.fuse oi) X) (t : Ot (Rp g' r' m' i') w4 s2) => END.out w4 s2 mb (d.fuse oi) k4 ⟨X4, r4⟩ q t c4 x4 wb)
        clear FU MID END t4 g4 r4 c4 x4 k4 bd k7 xu c0 c1 T7
        go_wp2_with fail
        refine RS.out.mono ?_
        rintro e w5 ⟨rfl, r5, t5⟩
        have F := Lib.hid (E4.out w5 ⟨X4, r5⟩ (Ot.of_grown t5 (.inl rfl)))
        clear RS E4 r5 t5 c1_
        go_wp2_with fail
        go_meet
        exact ⟨rfl, _, _, F.out⟩
      by_cases h01 : od = 0 ∨ od = 1
      · have F16 : Hid (∀ s, Ot (Bp g r mb g' r' m' i') u.drew s → s.cell? ⟨r7, 1, none⟩ = some (.int .i64 oi) ∧ s.cell? ⟨r7, 2, none⟩ = some (.int .u8 (ob.toNat : Int))) := fun s e => by
          have np := BD.np (C := OCC) bd.out k7.out
          have := T7.out s (e.block k7.out (fun q => by
            rcases q with (q | q | q) | q
            · exact np.1.1 q
            · exact np.1.2.1 q
            · exact np.1.2.2 q
            · exact np.2 q))
          exact ⟨this.1, this.2.1⟩
        have OF := Lib.hid (fun W => of21_calls (w := W) (b := ob))
        have BD0 : Hid (BD u.drew g r mb g' r' m' i' d ∧ Cb u.drew r7 55 OCC ∧ Ext w u.drew) := ⟨bd.out.ext (Ext.refl u).drew, k7.out.ext (Ext.refl u).drew, xu.out.drew⟩
        have v01 : (od == 2) = false := beq_eq_false_iff_ne.2 h2
        have v02 : (od == 3) = false := beq_eq_false_iff_ne.2 h3
        have hvv : od = 0 ∨ od = 1 := h01
        clear T7 bd k7 xu h2 h3 h01 RPG
        rcases hvv with rfl | rfl
        all_goals (
          go_upto_region 16 with fail
          clear c0
          refine wp_region_seq (R := Ot (Bp g r mb g' r' m' i')) (Ot.refl _) (fun _ _ _ => Ot.trans) [0, 1, 2, 3, 4, 7, 8, 9, 10, 11, 5, 6, 12, 13, 14, 15] [5, 6, 12, 13] [(0, 71, 128), (0, 72, 4096), (2, 73, 4722366482869645213696), (0, 74, 4096), (8, 75, 18889465931478580854784), (16, 76, 37778931862957161709568), (37, 77, 87363779933088436453376), (0, 78, 512), (0, 79, 4096), (256, 80, 604462909807314587353088), (0, 81, 4096), (1024, 82, 2417851639229258349412352), (2112, 83, 4835703278458516698824704), (4736, 84, 11182563831435319866032128), (8256, 85, 19493928841285895442137088), (32767, 13, 38685626227668133590597632)] (by kernel_rfl) (by kernel_rfl) (by kernel_rfl) rfl (by kernel_rfl) (by kernel_rfl) (fun _ _ d _ _ h => by cases d <;> exact h) ?_
          generalize u.drew = W at *
          repeat (first | (refine seq_read _ (fun w' e => F16.out w' e) _ (v := ?_) rfl rfl (by rfl) ?_ ?_; rotate_left; (· intro w' hF; go_simp; (try with_reducible rfl)); simp only [Act.put, List.setIfInBounds_toArray, List.set_cons_zero, List.set_cons_succ]) | (refine seq_skip _ rfl rfl (by rfl) ?_; simp only [Act.put, List.setIfInBounds_toArray, List.set_cons_zero, List.set_cons_succ]))
          refine seq_do _ rfl rfl (by rfl) (fun K hK => ?_)
          go_simp
          refine (OF.out W).mono ?_
          rintro e w4 ⟨rfl, x4⟩
          refine hK.out _ _ (Ot.of_ext x4) ?_
          clear hK K
          try simp only [Act.put, List.setIfInBounds_toArray, List.set_cons_zero, List.set_cons_succ]
          have bd4 := BD0.out.1.ext x4
          have c4 := BD0.out.2.1.ext x4
          have X4 := BD0.out.2.2.trans x4
          have WR := Lib.hid (dwrite_calls (i := oi) bd4.1 (secB_len ob))
          clear F16 BD0
          repeat (first | (refine seq_read (fun _ => True) (fun _ _ => trivial) _ (v := ?_) rfl rfl (by rfl) ?_ ?_; rotate_left; (· intro w' hF; go_simp; (try with_reducible rfl)); simp only [Act.put, List.setIfInBounds_toArray, List.set_cons_zero, List.set_cons_succ]) | (refine seq_skip _ rfl rfl (by rfl) ?_; simp only [Act.put, List.setIfInBounds_toArray, List.set_cons_zero, List.set_cons_succ]))
          refine seq_do _ rfl rfl (by rfl) (fun K hK => ?_)
          go_simp
          refine WR.out.mono ?_
          rintro e w5 ⟨rfl, k5, t5⟩
          refine hK.out _ _ (Ot.of_two t5 (.inl (.inl rfl)) (.inl (.inr (.inr rfl)))) ?_
          clear hK K
          try simp only [Act.put, List.setIfInBounds_toArray, List.set_cons_zero, List.set_cons_succ]
          obtain ⟨⟨X5, r5⟩, c5, x5⟩ := MID.out w4 w5 g mb (.inl rfl) (.inr (.inr rfl)) bd4.2 bd4.1 c4 X4 t5
          have r5' := Lib.hid r5
          have E5 := Lib.hid (fun s1 s2 (e : Ext w5 s1) (q : ∃ X, RD s2 g' r' m' i' (d.write oi (secB ob)) X) (t : Ot (Rp g' r' m' i') s1 s2) => END.out s1 s2 mb (d.write oi (secB ob)) (k5.ext e) ⟨X5, r5.ext e⟩ q t (c5.ext e) (x5.trans e) wb)
          clear WR MID END k5 t5 r5 c5 x5 bd4 c4 X4 x4
          repeat (first | (refine seq_read (fun _ => True) (fun _ _ => trivial) _ (v := ?_) rfl rfl (by rfl) ?_ ?_; rotate_left; (· intro w' hF; go_simp; (try with_reducible rfl)); simp only [Act.put, List.setIfInBounds_toArray, List.set_cons_zero, List.set_cons_succ]) | (refine seq_skip _ rfl rfl (by rfl) ?_; simp only [Act.put, List.setIfInBounds_toArray, List.set_cons_zero, List.set_cons_succ]))
          refine seq_do _ rfl rfl (by rfl) (fun K hK => ?_)
          go_simp
          refine (OF.out w5).mono ?_
          rintro e w6 ⟨rfl, x6⟩
          refine hK.out _ _ (Ot.of_ext x6) ?_
          clear hK K
          try simp only [Act.put, List.setIfInBounds_toArray, List.set_cons_zero, List.set_cons_succ]
          have WR := Lib.hid (rwrite_calls (i := oi) (r5'.out.ext x6) (secB_len ob))
          replace E5 := Lib.hid (fun s2 => E5.out w6 s2 x6)
          generalize d.writeE oi = ee at *
          clear OF r5' x6
          repeat (first | (refine seq_read (fun _ => True) (fun _ _ => trivial) _ (v := ?_) rfl rfl (by rfl) ?_ ?_; rotate_left; (· intro w' hF; go_simp; (try with_reducible rfl)); simp only [Act.put, List.setIfInBounds_toArray, List.set_cons_zero, List.set_cons_succ]) | (refine seq_skip _ rfl rfl (by rfl) ?_; simp only [Act.put, List.setIfInBounds_toArray, List.set_cons_zero, List.set_cons_succ]))
          refine seq_do _ rfl rfl (by rfl) (fun K hK => ?_)
          go_simp
          refine WR.out.mono ?_
          rintro e w7 ⟨rfl, r7_, t7⟩
          refine hK.out _ _ (t7.mono fun _ _ q => .inr q) ?_
          clear hK K
          try simp only [Act.put, List.setIfInBounds_toArray, List.set_cons_zero, List.set_cons_succ]
          have F := Lib.hid (E5.out w7 r7_ t7)
          clear WR E5 r7_ t7
          repeat (first | (refine seq_read (fun _ => True) (fun _ _ => trivial) _ (v := ?_) rfl rfl (by rfl) ?_ ?_; rotate_left; (· intro w' hF; go_simp; (try with_reducible rfl)); simp only [Act.put, List.setIfInBounds_toArray, List.set_cons_zero, List.set_cons_succ]) | (refine seq_skip _ rfl rfl (by rfl) ?_; simp only [Act.put, List.setIfInBounds_toArray, List.set_cons_zero, List.set_cons_succ]))
          refine seq_done ?_
          go_wp2_with fail
          go_meet
          exact ⟨by first | rfl | simp, _, _, F.out⟩)
      · have v01 : (od == 2) = false := beq_eq_false_iff_ne.2 h2
        have v02 : (od == 3) = false := beq_eq_false_iff_ne.2 h3
        have v03 : (od == 0) = false := beq_eq_false_iff_ne.2 fun q => h01 (.inl q)
        have v04 : (od == 1) = false := beq_eq_false_iff_ne.2 fun q => h01 (.inr q)
        obtain ⟨_, _, c3⟩ := T7.out u k7.out
        have CR := Lib.hid (dcrash_calls bd.out.1 hk)
        clear h2 h3 h01
        go_wp2_with fail
        refine CR.out.mono ?_
        rintro e w4 ⟨rfl, mb4, k4, h4, t4⟩
        obtain ⟨⟨X4, r4⟩, c4, x4⟩ := MID.out u w4 g r (.inl rfl) (.inr (.inl rfl)) bd.out.2 bd.out.1 k7.out xu.out t4
        have wb4 : w.heap.size ≤ mb4 := Nat.le_trans xu.out.size h4
        obtain ⟨_, _, c3_⟩ := T7.out w4 c4
        have RS := Lib.hid (rcrash_calls r4 hk)
        have E4 := Lib.hid (fun s2 (q : ∃ X, RD s2 g' r' m' i' (d.crash kept) X) (t : Ot (Rp g' r' m' i') w4 s2) => END.out w4 s2 mb4 (d.crash kept) k4 ⟨X4, r4⟩ q t c4 x4 wb4)
        clear CR MID END t4 r4 c4 x4 k4 h4 bd k7 xu c0 c3 T7
        go_wp2_with fail
        refine RS.out.mono ?_
        rintro e w5 ⟨rfl, r5, t5⟩
        have F := Lib.hid (E4.out w5 ⟨X4, r5⟩ t5)
        clear RS E4 r5 t5 c3_
        go_wp2_with fail
        go_meet
        exact ⟨rfl, _, _, F.out⟩
    case rest =>
      obtain ⟨rfl, mb2, d2, bd2, wb2, k72, xr2⟩ := hcut
      have c1 := (T7.out wc k72).1
      have RE := Lib.hid (dread_calls (i := oi) bd2.1)
      have L_x := read_len bd2.1.ok oi
      have PL := pend_len d2 d2.S.length
      have P64 := bd2.1.ok.most
      obtain ⟨xs, hxs⟩ : ∃ xs, xs = d2.read oi := ⟨_, rfl⟩
      have S_x : (cellsOf xs).toArray.size = 64 := by rw [hxs]; simp [cellsOf_len, L_x]
      have O_x := one_cells (one_mem xs)
      have BB : Hid (∀ s, Ext wc s → BD s g r mb2 g' r' m' i' d2 ∧ Cb s r7 55 OCC ∧ Ext w s) := fun s e => ⟨bd2.ext e, k72.ext e, xr2.trans e⟩
      rw [← hxs] at RE L_x
      have RR : Hid (∀ s, BD s g r mb2 g' r' m' i' d2 → Calls Try.prog 33 #[.pointer (some ⟨g', 0, none⟩), .int .i64 oi] s fun e w' => e = .returned (.tuple #[.agg (cellsOf xs).toArray, .int .i64 (d2.readE oi)]) ∧ Ext s w') := fun s h => by
        obtain ⟨_, X, q⟩ := h
        have := rread_calls (i := oi) q
        rwa [← hxs] at this
      clear hxs bd k7 bd2 k72 xr2 xu c0 rsz gsz
      generalize d2.readE oi = er at *
      go_wp2_with fail
      refine RE.out.mono ?_
      rintro e w4 ⟨rfl, x4⟩
      have K5 : Hid (Cb ((w4.alloc (.cells ZL.toArray 58)).setRow w4.heap.size (cellsOf xs).toArray) w4.heap.size 58 (cellsOf xs) ∧ Ext wc ((w4.alloc (.cells ZL.toArray 58)).setRow w4.heap.size (cellsOf xs).toArray)) := ⟨(Cb.new w4 _ ZL).set, x4.trans (Ext.newRow _ _ _)⟩
      clear RE x4 c1
      go_upto_region 23 with (refine wpList_store_row rfl 58 _ _ rfl w4.heap.size (cellsOf xs).toArray rfl rfl 58 ZL.toArray (heap_alloc_new _ _) (by rw [S_x]; rfl) (by rw [S_x, S_ZL]) O_x ?_; simp only [Act.put])
      refine wp_gen (fun W => Cb W w4.heap.size 58 (cellsOf xs) ∧ Ext wc W) K5.out ?_
      generalize w4.heap.size = g13 at *
      clear K5 w4
      rintro w5 ⟨k13, x5⟩
      obtain ⟨bd5, c5, _⟩ := BB.out w5 x5
      have c1 := (T7.out w5 c5).1
      have RE := Lib.hid (RR.out w5 bd5)
      clear RR bd5 c5 T7
      go_wp2_with fail
      refine RE.out.mono ?_
      rintro e w6 ⟨rfl, x6⟩
      have K7 : Hid (Cb ((w6.alloc (.cells ZL.toArray 61)).setRow w6.heap.size (cellsOf xs).toArray) w6.heap.size 61 (cellsOf xs) ∧ Cb ((w6.alloc (.cells ZL.toArray 61)).setRow w6.heap.size (cellsOf xs).toArray) g13 58 (cellsOf xs) ∧ Ext wc ((w6.alloc (.cells ZL.toArray 61)).setRow w6.heap.size (cellsOf xs).toArray)) := ⟨(Cb.new w6 _ ZL).set, k13.ext (x6.trans (Ext.newRow _ _ _)), (x5.trans x6).trans (Ext.newRow _ _ _)⟩
      clear RE x6 x5 c1 k13
      go_upto_region 24 with (refine wpList_store_row rfl 61 _ _ rfl w6.heap.size (cellsOf xs).toArray rfl rfl 61 ZL.toArray (heap_alloc_new _ _) (by rw [S_x]; rfl) (by rw [S_x, S_ZL]) O_x ?_; simp only [Act.put])
      refine wp_gen (fun W => Cb W w6.heap.size 61 (cellsOf xs) ∧ Cb W g13 58 (cellsOf xs) ∧ Ext wc W) K7.out ?_
      generalize w6.heap.size = g15 at *
      clear K7 w6
      rintro w7 ⟨k15, k13, x7⟩
      have PN := Lib.hid (dpending_calls (BB.out w7 x7).1.1)
      replace k15 := Lib.hid k15
      replace k13 := Lib.hid k13
      replace x7 := Lib.hid x7
      go_wp2_with fail
      refine PN.out.mono ?_
      rintro e w8 ⟨A1, c1, rfl, o1, x8⟩
      have X8 : Hid (Ext wc w8) := x7.out.trans x8
      have RP : Hid (Calls Try.prog 36 #[.pointer (some ⟨g', 0, none⟩)] w8 fun e w' => ∃ A c, e = .returned (.slice A (d2.pend d2.S.length).length c) ∧ OwnC w8.heap.size w' 3 1 A (d2.pend d2.S.length).length c (iC (d2.pend d2.S.length)) ∧ Ext w8 w') := by
        obtain ⟨_, X, q⟩ := (BB.out w8 X8.out).1
        exact rpending_calls q
      replace o1 := Lib.hid o1.cs
      replace k15 := Lib.hid (k15.out.ext x8)
      replace k13 := Lib.hid (k13.out.ext x8)
      clear PN x7 x8
      go_wp2_with fail
      refine RP.out.mono ?_
      rintro e w9 ⟨A2, c2, rfl, o2, x9⟩
      have IN := Lib.hid (rints_calls (o1.out.ext x9) o2.cs (by omega))
      replace k15 := Lib.hid (k15.out.ext x9)
      replace k13 := Lib.hid (k13.out.ext x9)
      have X9 : Hid (Ext wc w9) := X8.out.trans x9
      clear RP X8 x9 o1 o2
      go_wp2_with fail
      refine IN.out.mono ?_
      rintro e w10 ⟨rfl, x10⟩
      have K15 := k15.out.ext x10
      have K13 := k13.out.ext x10
      have F := Lib.hid (BB.out w10 (X9.out.trans x10))
      clear IN k15 k13 X9 x10 BB
      go_wp2_with (first
        | ((with_reducible refine wpList_load_rowW (o := ⟨some 128, _, _, _, _, _⟩) ?_ 58 _ rfl g13 ?_ 58 (cellsOf xs).toArray (0, 0) _ ?_ Try.underlying58 ?_ ?_ ?_); (· rfl); (· rfl); (· exact K13); (· rfl); (· rw [S_x]; rfl); simp only [Act.put, List.setIfInBounds_toArray, List.set_cons_zero, List.set_cons_succ])
        | ((with_reducible refine wpList_load_rowW (o := ⟨some 129, _, _, _, _, _⟩) ?_ 61 _ rfl g15 ?_ 61 (cellsOf xs).toArray (0, 0) _ ?_ Try.underlying61 ?_ ?_ ?_); (· rfl); (· rfl); (· exact K15); (· rfl); (· rw [S_x]; rfl); simp only [Act.put, List.setIfInBounds_toArray, List.set_cons_zero, List.set_cons_succ])
        | ((with_reducible refine wpList_exec (o := ⟨some 130, _, _, _, _, _⟩) (v := .bool false) ?_ ?_ ?_); (· rfl); (· exact exec_neq_rsector (xs := xs) (ys := xs) (by simp) L_x L_x rfl rfl rfl); simp only [Act.put, List.setIfInBounds_toArray, List.set_cons_zero, List.set_cons_succ]))
      go_round
      case rel => exact ⟨i + 1, mb2, d2, by omega, by omega, by go_num, F.out.1, wb2, F.out.2.2⟩
      case measure => simp [intOf]; omega
end Go.Proofs.Ytonjialkfbbhpaa
