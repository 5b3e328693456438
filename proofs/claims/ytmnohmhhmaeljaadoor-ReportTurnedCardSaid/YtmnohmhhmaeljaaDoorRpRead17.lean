import Derived.Test.YtmnohmhhmaeljaaDoorPkG
import Derived.Test.YtmnohmhhmaeljaaDoorPkH
import Derived.Test.YtmnohmhhmaeljaaDoorSeqD
/-
  report.Read (written by gen17r.py).
-/
namespace Go.Proofs.YtmnohmhhmaeljaaDoor
open Go.ChangeShapes Go.WideShapes Go.ChangeAt Go.RowKit Go.Deep
set_option maxRecDepth 100000

def Pp17 (p i : Nat) : Prop := i = p
theorem readR_results {tm : Array Value} {d : Nat} {v : Value} (h : 4 ≤ d) : results Tryd.f17 (tm.setIfInBounds d v) = results Tryd.f17 tm := by
  have h2 : (tm.setIfInBounds d v)[2]? = tm[2]? := Array.getElem?_setIfInBounds_ne (by omega)
  have h3 : (tm.setIfInBounds d v)[3]? = tm[3]? := Array.getElem?_setIfInBounds_ne (by omega)
  simp [results, Tryd.results17, h2, h3]
set_option maxHeartbeats 16000000 in
theorem read17_calls {w : World} {n c : Nat} {A : Option Addr} {b : List UInt8} (hb : Bs w A n c b) (hn : n ≤ 1000000) :
    Calls Tryd.prog 17 #[.slice A n c] w (RetRp (readRp b) (readRpE b) w) := by
  have hmf : ∀ (fn : Fn) (first cap : Array Value) (w : World), (Instr.makeFunc fn first cap).run Tryd.prog w = .ok (.func fn first cap) w := fun _ _ _ _ => rfl
  have PT : Hid (∀ (W : World), Ext w W → Calls Tryd.prog 54 #[.slice A n c] W (RetPartG (partL b) W)) := fun W e => part_calls (hb.ext e) hn
  have CF : Hid (∀ (W : World) (p : Nat) (z : Int) (L : List Value) (v : Value), Cb W p 28 L → Cb W (p + 1) 30 [v] → L.length = 103 → CallsD Tryd.prog 52 #[.pointer (some ⟨p, 0, none⟩), .pointer (some ⟨p + 1, 0, none⟩)] (.panicking [faultR z]) W fun e u' w' => e = .returned (.tuple #[]) ∧ u' = .panicking [{ faultR z with recovered := true }] ∧ Cb w' p 28 zRC ∧ Cb w' (p + 1) 30 [.int .i64 z] ∧ ∀ B, B ≤ p → B ≤ p + 1 → Below B W w') := fun W p z L v h1 h2 lh => catchR_fault h1 h2 (by omega) lh
  have CI : Hid (∀ (W : World) (p q : Addr), CallsD Tryd.prog 52 #[.pointer (some p), .pointer (some q)] .returning W fun e u' w' => e = .returned (.tuple #[]) ∧ u' = .returning ∧ Ext W w') := fun W p q => catchR_idle
  have N3 : Hid (partL b = none → readRp b = zRm ∧ readRpE b = 3) := fun h => readR_none h
  have N2 : Hid (∀ l, partL b = some l → formR l = false → readRp b = zRm ∧ readRpE b = 2) := fun l h q => readR_bad h q
  have N0 : Hid (∀ l, partL b = some l → formR l = true → readRp b = rdR l ∧ readRpE b = 0) := fun l h q => readR_good h q
  generalize readRp b = RM at *
  generalize readRpE b = RE at *
  have hal := report_alloc
  have L_z := zRC_len
  have O_z := zRC_one
  obtain ⟨ZC, hZC⟩ : ∃ x, x = zRC := ⟨_, rfl⟩
  rw [← hZC] at CF hal L_z O_z
  have RZ : Hid (∀ RM RE er w w', RM = zRm → RE = er → Ext w w' → RetRp RM RE w (.returned (.tuple #[.agg ZC.toArray, .int .i64 er])) w') := by rw [hZC]; exact fun RM RE er w w' h1 h2 x => RetRp.zero h1 h2 x
  have ZL : Hid (∀ _ : Unit, ZC = rpC 0 0 none 0 0 (List.replicate 32 0) zSm.C) := fun _ => hZC
  clear hZC hb
  obtain ⟨p, hp⟩ : ∃ x, x = w.heap.size := ⟨_, rfl⟩
  have Z0 : Hid (Cb ((w.alloc (Obj.cells ZC.toArray 28)).alloc (Obj.cells #[Value.int .i64 0] 30)) p 28 ZC ∧ Cb ((w.alloc (Obj.cells ZC.toArray 28)).alloc (Obj.cells #[Value.int .i64 0] 30)) (p + 1) 30 [.int .i64 0] ∧ Ext w ((w.alloc (Obj.cells ZC.toArray 28)).alloc (Obj.cells #[Value.int .i64 0] 30)) ∧ ((w.alloc (Obj.cells ZC.toArray 28)).alloc (Obj.cells #[Value.int .i64 0] 30)).heap.size = p + 2) := by rw [hp]; exact ⟨heap_alloc1 _ _ _, heap_alloc2 _ _ _, ((Ext.refl w).alloc _).alloc _, by rw [size_alloc, size_alloc]⟩
  have wp_ : w.heap.size ≤ p := Nat.le_of_eq hp.symm
  replace hp := Lib.hid hp
  go_enter_defers Tryd.func17, Tryd.ntmps17
  go_upto_region 2 with fail
  refine wp_gen (fun W => Cb W p 28 ZC ∧ Cb W (p + 1) 30 [.int .i64 0] ∧ Ext w W ∧ W.heap.size = p + 2) Z0.out ?_
  rw [← hp.out]
  clear Z0 hp hmf
  rintro w0 ⟨k0, k1, x0, z0⟩
  have P0 := Lib.hid (PT.out w0 x0)
  replace z0 := Lib.hid z0
  clear PT
  go_wp2_with fail
  refine P0.out.mono ?_
  rintro e w1 hret
  clear P0
  rcases hpb : partL b with _ | l
  · rw [hpb] at hret
    obtain ⟨A1, n1, c1, he, _, x1⟩ := hret
    replace he : e = .returned (.tuple #[.slice A1 n1 c1, .int .i64 3]) := he
    subst he
    have ZF := Lib.hid (N3.out hpb)
    have CC := Lib.hid (CF.out w1 p 3 ZC _ (k0.ext x1) (k1.ext x1) L_z)
    have FX := Lib.hid (x0.trans x1)
    clear N2 N0 N3 CF CI k0 k1 x0 x1 hpb ZL
    go_wp2_with fail
    refine leaves_cons (f := 52) (args := #[.pointer (some ⟨p, 0, none⟩), .pointer (some ⟨p + 1, 0, none⟩)]) (by simp) (by simp [go_sem]) ?_
    refine CC.out.mono ?_
    rintro e u' wZ ⟨rfl, rfl, kZ1, kZ2, xZ⟩
    exact ⟨_, results17 rfl rfl kZ1 kZ2 L_z, RZ.out _ _ _ _ _ ZF.out.1 ZF.out.2 (Below.trans FX.out (xZ _ wp_ (by omega)))⟩
  rw [hpb] at hret
  obtain ⟨A1, n1, c1, he, o1, x1⟩ := hret
  replace he : e = .returned (.tuple #[.slice A1 n1 c1, .int .i64 0]) := he
  replace o1 : OwnG w0.heap.size w1 A1 n1 c1 l := o1
  rw [z0.out] at o1
  subst he
  replace N2 := Lib.hid (N2.out l hpb)
  replace N0 := Lib.hid (N0.out l hpb)
  have FI : Hid (formR l = true ↔ _) := formR_iff
  have hln := o1.len
  replace k0 := Lib.hid (k0.ext x1)
  replace k1 := Lib.hid (k1.ext x1)
  have X1 := Lib.hid (x0.trans x1)
  clear N3 hpb z0 x0 x1
  have DM1 : Hid (∀ W : World, Calls Tryd.prog 55 #[.bool true] W fun e w' => e = .returned (.tuple #[]) ∧ Ext W w') := fun W => rpDemand_ok
  have DM0 : Hid (∀ W : World, Calls Tryd.prog 55 #[.bool false] W fun e w' => e = .panicked [faultR 2] ∧ Ext W w') := fun W => rpDemand_bad
  by_cases h5 : ¬ (n1 = 5)
  · have u5 : ((n1 : Int) == 5) = false := by simp; omega
    have ZF := Lib.hid (N2.out (Bool.eq_false_iff.mpr fun q => by have := (FI.out.1 q).1; omega))
    have hn1 := Lib.hid o1.rw.le
    have hn2 := Lib.hid o1.rw.cap
    clear N2 N0 FI CI ZL DM1 o1
    go_wp2_with fail
    refine (DM0.out _).mono ?_
    rintro e w2 ⟨rfl, x2⟩
    have CC := Lib.hid (CF.out w2 p 2 ZC _ (k0.out.ext x2) (k1.out.ext x2) L_z)
    have FX := Lib.hid (X1.out.trans x2)
    clear CF k0 k1 X1 x2
    refine leaves_cons (f := 52) (args := #[.pointer (some ⟨p, 0, none⟩), .pointer (some ⟨p + 1, 0, none⟩)]) (by simp) (by simp [go_sem]) ?_
    refine CC.out.mono ?_
    rintro e u' wZ ⟨rfl, rfl, kZ1, kZ2, xZ⟩
    exact ⟨_, results17 rfl rfl kZ1 kZ2 L_z, RZ.out _ _ _ _ _ ZF.out.1 ZF.out.2 (Below.trans FX.out (xZ _ wp_ (by omega)))⟩
  obtain rfl : n1 = 5 := Classical.not_not.1 h5
  have u5 : ((5 : Int) == 5) = true := rfl
  obtain ⟨g, rfl, hg, hgl, hrow⟩ := o1.head (by omega)
  obtain ⟨A0, n0, c0, q0, b0⟩ := hrow 0 (by omega)
  obtain ⟨A1, n1, c1', q1, b1⟩ := hrow 1 (by omega)
  obtain ⟨A2, n2, c2, q2, b2⟩ := hrow 2 (by omega)
  obtain ⟨A3, n3, c3, q3, b3⟩ := hrow 3 (by omega)
  obtain ⟨A4, n4, c4, q4, b4⟩ := hrow 4 (by omega)
  have c5 := o1.rw.le
  have H0 : Hid (Rr w w1 p g [(A0, n0, c0), (A1, n1, c1'), (A2, n2, c2), (A3, n3, c3), (A4, n4, c4)] l ZC) := ⟨k0.out, k1.out, hg, hgl, fun j v hv => by
    match j with
    | 0 => cases hv; exact ⟨q0, b0⟩
    | 1 => cases hv; exact ⟨q1, b1⟩
    | 2 => cases hv; exact ⟨q2, b2⟩
    | 3 => cases hv; exact ⟨q3, b3⟩
    | 4 => cases hv; exact ⟨q4, b4⟩
    | j + 5 => simp at hv, wp_, X1.out⟩
  have l0 := b0.1.len
  have l1 := b1.1.len
  have l2 := b2.1.len
  have l3 := b3.1.len
  have l4 := b4.1.len
  have m2 := b2.1.le
  have m2' := b2.1.cap
  clear q0 q1 q2 q3 q4 b0 b1 b2 b3 b4 hrow o1 k0 k1 X1 hg hgl h5
  go_upto_region 5 with fail
  go_wp2_with fail
  refine (DM1.out _).mono ?_
  rintro e w2 ⟨rfl, x2⟩
  replace H0 := Lib.hid (H0.out.onto x2)
  clear x2
  go_upto_region 6 with fail
  refine wp_gen (fun W => Rr w W p g [(A0, n0, c0), (A1, n1, c1'), (A2, n2, c2), (A3, n3, c3), (A4, n4, c4)] l ZC) H0.out ?_
  clear H0 u5 w2 w1 w0
  rintro w1 h0
  have cell0 := (h0.rows 0 _ rfl).1
  have bs0 := Lib.hid (h0.rows 0 _ rfl).2.1
  dsimp only at cell0 bs0
  by_cases g0 : ¬ (n0 = 4)
  · have ZF := Lib.hid (N2.out (Bool.eq_false_iff.mpr fun q => by have := (FI.out.1 q).2.1; omega))
    have SB := Lib.hid (rpSized_bad (w := w1) (A := A0) (c := c0) g0)
    have h0' := Lib.hid h0
    have L_c : ZC.length = 103 := L_z
    clear N2 N0 FI CI ZL DM1 DM0 h0
    go_wp2_with fail
    refine SB.out.mono ?_
    rintro e w2 ⟨rfl, x2⟩
    have CC := Lib.hid (CF.out w2 p 2 _ _ (h0'.out.onto x2).rp (h0'.out.onto x2).er L_c)
    have FX := Lib.hid (h0'.out.ext.trans x2)
    clear CF h0' x2 SB bs0 cell0
    refine leaves_cons (f := 52) (args := #[.pointer (some ⟨p, 0, none⟩), .pointer (some ⟨p + 1, 0, none⟩)]) (by simp) (by simp [go_sem]) ?_
    refine CC.out.mono ?_
    rintro e u' wZ ⟨rfl, rfl, kZ1, kZ2, xZ⟩
    exact ⟨_, results17 rfl rfl kZ1 kZ2 L_z, RZ.out _ _ _ _ _ ZF.out.1 ZF.out.2 (Below.trans FX.out (xZ _ wp_ (by omega)))⟩
  obtain rfl : n0 = 4 := Classical.not_not.1 g0
  have SO := Lib.hid (rpSized_ok (w := w1) (A := A0) (c := c0) (k := 4) rfl (by omega))
  obtain ⟨v0, hv0⟩ : ∃ v, v = numN (l.getD 0 []) 4 := ⟨_, rfl⟩
  have vl0 : v0 < 4294967296 := by rw [hv0]; exact numN_lt (by omega)
  have OH : Hid (∀ W, Ext w1 W → Calls Tryd.prog 56 #[.slice A0 4 c0] W fun e w' => e = .returned (.int .u64 (v0 : Int)) ∧ Ext W w') := fun W x => by rw [hv0]; exact ofHigh_calls (bs0.out.ext x) (by omega) (by omega) rfl
  replace hv0 := Lib.hid (fun _ : Unit => hv0)
  replace h0 := Lib.hid h0
  have w0_ : IntKind.i64.wrap (v0 : Int) = (v0 : Int) := IntWalk.i64_in _ (by omega)
  clear g0 bs0
  go_wp2_with fail
  refine SO.out.mono ?_
  rintro e w2 ⟨rfl, x2⟩
  replace OH := Lib.hid (OH.out w2 x2)
  have h2 := Lib.hid (h0.out.onto x2)
  clear SO h0 x2 cell0
  go_wp2_with fail
  refine OH.out.mono ?_
  rintro e w3 ⟨rfl, x3⟩
  have h3 := h2.out.onto x3
  have fz := h3.rp.frozen 0
  have cz := h3.rp.cell (j := 0) (v := .int .i64 0) (by rw [ZL.out ()]; rfl)
  have h4 : Hid (Rr w (w3.setCell ⟨p, 0, none⟩ (.int .i64 (v0 : Int))) p g [(A0, 4, c0), (A1, n1, c1'), (A2, n2, c2), (A3, n3, c3), (A4, n4, c4)] l (rpC (v0 : Int) 0 none 0 0 (List.replicate 32 0) zSm.C)) := by
    have := h3.cell (j := 0) (v := .int .i64 (v0 : Int))
    rwa [show ZC.set 0 (.int .i64 (v0 : Int)) = (rpC (v0 : Int) 0 none 0 0 (List.replicate 32 0) zSm.C) by rw [ZL.out ()]; rfl] at this
  clear OH h2 h3 x3
  go_upto_region 7 with fail
  refine wp_gen (fun W => Rr w W p g [(A0, 4, c0), (A1, n1, c1'), (A2, n2, c2), (A3, n3, c3), (A4, n4, c4)] l (rpC (v0 : Int) 0 none 0 0 (List.replicate 32 0) zSm.C)) h4.out ?_
  clear h4 fz cz w3 w2 w1
  rintro w1 h0
  have cell1 := (h0.rows 1 _ rfl).1
  have bs1 := Lib.hid (h0.rows 1 _ rfl).2.1
  dsimp only at cell1 bs1
  by_cases g1 : ¬ (n1 = 1)
  · have ZF := Lib.hid (N2.out (Bool.eq_false_iff.mpr fun q => by have := (FI.out.1 q).2.2.1; omega))
    have SB := Lib.hid (rpSized_bad (w := w1) (A := A1) (c := c1') g1)
    have h0' := Lib.hid h0
    have L_c : (rpC (v0 : Int) 0 none 0 0 (List.replicate 32 0) zSm.C).length = 103 := rpC_len rfl (Sm.C_len zSm_ok) _ _ _ _ _
    clear N2 N0 FI CI ZL DM1 DM0 h0
    go_wp2_with fail
    refine SB.out.mono ?_
    rintro e w2 ⟨rfl, x2⟩
    have CC := Lib.hid (CF.out w2 p 2 _ _ (h0'.out.onto x2).rp (h0'.out.onto x2).er L_c)
    have FX := Lib.hid (h0'.out.ext.trans x2)
    clear CF h0' x2 SB bs1 cell1
    refine leaves_cons (f := 52) (args := #[.pointer (some ⟨p, 0, none⟩), .pointer (some ⟨p + 1, 0, none⟩)]) (by simp) (by simp [go_sem]) ?_
    refine CC.out.mono ?_
    rintro e u' wZ ⟨rfl, rfl, kZ1, kZ2, xZ⟩
    exact ⟨_, results17 rfl rfl kZ1 kZ2 L_z, RZ.out _ _ _ _ _ ZF.out.1 ZF.out.2 (Below.trans FX.out (xZ _ wp_ (by omega)))⟩
  obtain rfl : n1 = 1 := Classical.not_not.1 g1
  have SO := Lib.hid (rpSized_ok (w := w1) (A := A1) (c := c1') (k := 1) rfl (by omega))
  obtain ⟨v1, hv1⟩ : ∃ v, v = numN (l.getD 1 []) 1 := ⟨_, rfl⟩
  have vl1 : v1 < 4294967296 := by rw [hv1]; exact numN_lt (by omega)
  have OH : Hid (∀ W, Ext w1 W → Calls Tryd.prog 56 #[.slice A1 1 c1'] W fun e w' => e = .returned (.int .u64 (v1 : Int)) ∧ Ext W w') := fun W x => by rw [hv1]; exact ofHigh_calls (bs1.out.ext x) (by omega) (by omega) rfl
  replace hv1 := Lib.hid (fun _ : Unit => hv1)
  replace h0 := Lib.hid h0
  have w1_ : IntKind.i64.wrap (v1 : Int) = (v1 : Int) := IntWalk.i64_in _ (by omega)
  clear g1 bs1
  go_wp2_with fail
  refine SO.out.mono ?_
  rintro e w2 ⟨rfl, x2⟩
  replace OH := Lib.hid (OH.out w2 x2)
  have h2 := Lib.hid (h0.out.onto x2)
  clear SO h0 x2 cell1
  go_wp2_with fail
  refine OH.out.mono ?_
  rintro e w3 ⟨rfl, x3⟩
  have h3 := h2.out.onto x3
  have fz := h3.rp.frozen 1
  have cz := h3.rp.cell (j := 1) (v := .int .i64 0) rfl
  have h4 : Hid (Rr w (w3.setCell ⟨p, 1, none⟩ (.int .i64 (v1 : Int))) p g [(A0, 4, c0), (A1, 1, c1'), (A2, n2, c2), (A3, n3, c3), (A4, n4, c4)] l (rpC (v0 : Int) (v1 : Int) none 0 0 (List.replicate 32 0) zSm.C)) := by
    have := h3.cell (j := 1) (v := .int .i64 (v1 : Int))
    rwa [show (rpC (v0 : Int) 0 none 0 0 (List.replicate 32 0) zSm.C).set 1 (.int .i64 (v1 : Int)) = (rpC (v0 : Int) (v1 : Int) none 0 0 (List.replicate 32 0) zSm.C) from rfl] at this
  clear OH h2 h3 x3
  go_upto_region 8 with fail
  refine wp_gen (fun W => Rr w W p g [(A0, 4, c0), (A1, 1, c1'), (A2, n2, c2), (A3, n3, c3), (A4, n4, c4)] l (rpC (v0 : Int) (v1 : Int) none 0 0 (List.replicate 32 0) zSm.C)) h4.out ?_
  clear h4 fz cz w3 w2 w1
  rintro w1 h0
  have cell2 := (h0.rows 2 _ rfl).1
  dsimp only at cell2
  have fz := h0.rp.frozen 2
  have cz := h0.rp.cell (j := 2) (v := .slice none 0 0) rfl
  have h4 : Hid (Rr w (w1.setCell ⟨p, 2, none⟩ (.slice A2 n2 c2)) p g [(A0, 4, c0), (A1, 1, c1'), (A2, n2, c2), (A3, n3, c3), (A4, n4, c4)] l (rpC (v0 : Int) (v1 : Int) A2 n2 c2 (List.replicate 32 0) zSm.C)) := h0.cell (j := 2) (v := .slice A2 n2 c2)
  clear h0
  go_upto_region 9 with fail
  refine wp_gen (fun W => Rr w W p g [(A0, 4, c0), (A1, 1, c1'), (A2, n2, c2), (A3, n3, c3), (A4, n4, c4)] l (rpC (v0 : Int) (v1 : Int) A2 n2 c2 (List.replicate 32 0) zSm.C)) h4.out ?_
  clear h4 fz cz cell2 w1
  rintro w1 h0
  have L_c : (rpC (v0 : Int) (v1 : Int) A2 n2 c2 (List.replicate 32 0) zSm.C).length = 103 := rpC_len rfl (Sm.C_len zSm_ok) _ _ _ _ _
  have cell3 : ∀ s, Ot (Pp17 p) w1 s → s.cell? ⟨g, 3, none⟩ = some (.slice A3 n3 c3) := fun s x => (World.cell?_of_block (x.same (i := g) h0.gl (fun z => by have := h0.gp; unfold Pp17 at z; omega))).trans (h0.rows 3 _ rfl).1
  replace cell3 := Lib.hid cell3
  by_cases g3 : ¬ (n3 = 32)
  · have ZF := Lib.hid (N2.out (Bool.eq_false_iff.mpr fun q => by have := (FI.out.1 q).2.2.2.1; omega))
    have SB : Hid (∀ W : World, Calls Tryd.prog 57 #[.slice A3 n3 c3, .int .i64 32] W fun e w' => e = .panicked [faultR 2] ∧ Ext W w') := fun W => rpSized_bad (k := 32) g3
    replace h0 := Lib.hid h0
    clear N2 N0 FI CI ZL DM1 DM0
    refine qgRD 4 (R := Ot (Pp17 p)) (Ot.refl _) (fun _ _ _ => Ot.trans) [0, 1, 2, 3, 4, 5, 6] [5, 6] (fun c a d v w hd h => leaves_put (P := Tryd.prog) (readR_results hd) _ _ _ h) ?_
    have e0 : Hid (Ot (Pp17 p) w1 w1.drew ∧ Ext w1 w1.drew) := ⟨(Ot.refl _ _).drew, (Ext.refl _).drew⟩
    generalize w1.drew = V at *
    repeat ((first | refine qR _ (fun w' e => cell3.out w' (e0.out.1.trans e)) ?_ | refine qS ?_); go_frame)
    refine qD fun K hK => ?_
    go_simp
    refine (SB.out _).mono ?_
    rintro e w2 ⟨rfl, x2⟩
    have CC := Lib.hid (CF.out w2 p 2 _ _ (h0.out.onto (e0.out.2.trans x2)).rp (h0.out.onto (e0.out.2.trans x2)).er L_c)
    have FX := Lib.hid (h0.out.ext.trans (e0.out.2.trans x2))
    clear h0 x2 SB cell3 e0 hK
    refine leaves_cons (f := 52) (args := #[.pointer (some ⟨p, 0, none⟩), .pointer (some ⟨p + 1, 0, none⟩)]) (by simp) (by simp [go_sem]) ?_
    refine CC.out.mono ?_
    rintro e u' wZ ⟨rfl, rfl, kZ1, kZ2, xZ⟩
    exact ⟨_, results17 rfl rfl kZ1 kZ2 L_z, RZ.out _ _ _ _ _ ZF.out.1 ZF.out.2 (Below.trans FX.out (xZ _ wp_ (by omega)))⟩
  obtain rfl : n3 = 32 := Classical.not_not.1 g3
  have bs3 := Lib.hid (h0.rows 3 _ rfl).2.1
  have SO : Hid (∀ W : World, Calls Tryd.prog 57 #[.slice A3 32 c3, .int .i64 32] W fun e w' => e = .returned (.slice A3 32 c3) ∧ Ext W w') := fun W => rpSized_ok (k := 32) rfl (by omega)
  replace h0 := Lib.hid h0
  refine qgRD 4 (R := Ot (Pp17 p)) (Ot.refl _) (fun _ _ _ => Ot.trans) [0, 1, 2, 3, 4, 5, 6] [5, 6] (fun c a d v w hd h => leaves_put (P := Tryd.prog) (readR_results hd) _ _ _ h) ?_
  have e0 : Hid (Ot (Pp17 p) w1 w1.drew ∧ Ext w1 w1.drew) := ⟨(Ot.refl _ _).drew, (Ext.refl _).drew⟩
  generalize w1.drew = V at *
  repeat ((first | refine qR _ (fun w' e => cell3.out w' (e0.out.1.trans e)) ?_ | refine qS ?_); go_frame)
  refine qD fun K hK => ?_
  go_simp
  refine (SO.out _).mono ?_
  rintro e w2 ⟨rfl, x2⟩
  refine hK.out _ _ (Ot.of_ext x2) ?_
  clear hK K
  try go_frame
  have h2 := Lib.hid (h0.out.onto (e0.out.2.trans x2))
  replace bs3 := Lib.hid (bs3.out.ext (e0.out.2.trans x2))
  clear SO h0 e0 x2 cell3 g3
  refine qD fun K hK => ?_
  go_simp
  refine upon_copy_mid (L := (rpC (v0 : Int) (v1 : Int) A2 n2 c2 (List.replicate 32 0) zSm.C)) (p := [.int .i64 (v0 : Int), .int .i64 (v1 : Int), .slice A2 n2 c2]) (y := cellsOf (List.replicate 32 0)) (q := zSm.C) rfl h2.out.rp rfl rfl (by simp [cellsOf_len]) bs3.out (by omega) ?_
  refine hK.out _ _ (Ot.row _ _ rfl) ?_
  clear hK K
  try go_frame
  refine seq_done ?_
  obtain ⟨op, hop⟩ : ∃ x, x = l.getD 3 [] := ⟨_, rfl⟩
  have lop : op.length = 32 := by rw [hop]; exact bs3.out.len
  have h4 : Hid (Rr w (w2.setRow p ([Value.int .i64 (v0 : Int), .int .i64 (v1 : Int), .slice A2 n2 c2] ++ (cellsOf (l.getD 3 []) ++ zSm.C)).toArray) p g [(A0, 4, c0), (A1, 1, c1'), (A2, n2, c2), (A3, 32, c3), (A4, n4, c4)] l (rpC (v0 : Int) (v1 : Int) A2 n2 c2 op zSm.C)) := by rw [hop]; exact h2.out.row
  refine gen_q (fun W => Rr w W p g [(A0, 4, c0), (A1, 1, c1'), (A2, n2, c2), (A3, 32, c3), (A4, n4, c4)] l (rpC (v0 : Int) (v1 : Int) A2 n2 c2 op zSm.C)) h4.out ?_
  replace hop := Lib.hid (fun _ : Unit => hop)
  clear h4 h2 bs3 L_c w2 w1
  rintro w1 h0
  have cell4 := (h0.rows 4 _ rfl).1
  dsimp only at cell4
  have SR := Lib.hid (read16_calls (h0.rows 4 _ rfl).2.1)
  obtain ⟨l4v, hl4⟩ : ∃ x, x = l.getD 4 [] := ⟨_, rfl⟩
  dsimp only at SR
  rw [← hl4] at SR
  have okx := readS_ok l4v
  have L_x := Sm.C_len okx
  have O_x : (readS16 l4v).C.toArray.all (·.oneCell') = true := one_cells (readS16 l4v).one
  have S_x : (readS16 l4v).C.toArray.size = 68 := by rw [List.size_toArray, L_x]
  obtain ⟨SX, hSX⟩ : ∃ x, x = (readS16 l4v).C := ⟨_, rfl⟩
  obtain ⟨EX, hEX⟩ : ∃ x, x = readE16 l4v := ⟨_, rfl⟩
  rw [← hSX] at SR L_x O_x S_x
  rw [← hEX] at SR
  replace hl4 := Lib.hid (fun _ : Unit => hl4)
  replace hSX := Lib.hid (fun _ : Unit => hSX)
  replace hEX := Lib.hid (fun _ : Unit => hEX)
  replace h0 := Lib.hid h0
  clear okx
  go_upto_region 10 with fail
  go_wp2_with fail
  refine SR.out.mono ?_
  rintro e w2 ⟨rfl, x2⟩
  have h2 := h0.out.onto x2
  have th := Lib.hid (h2.rp.there (o := 35) (n := 68) (by rw [rpC_len lop (Sm.C_len zSm_ok)]; omega))
  have h4 : Hid (Rr w (w2.setCells p 35 SX.toArray.toList) p g [(A0, 4, c0), (A1, 1, c1'), (A2, n2, c2), (A3, 32, c3), (A4, n4, c4)] l (rpC (v0 : Int) (v1 : Int) A2 n2 c2 op SX)) := by
    have := h2.put (off := 35) (z := SX) (rpC_mid (v0 : Int) (v1 : Int) A2 n2 c2 op zSm.C) (rp_pre lop) (by rw [L_x]; exact Sm.C_len zSm_ok)
    rwa [← rpC_mid] at this
  clear h0 h2 SR x2 cell4
  go_upto_region 11 with (refine wpList_store_mid rfl 26 _ _ rfl p 35 SX.toArray rfl rfl (by rw [S_x]; exact th.out) (by rw [S_x]; rfl) O_x ?_; simp only [Act.put])
  refine wp_gen (fun W => Rr w W p g [(A0, 4, c0), (A1, 1, c1'), (A2, n2, c2), (A3, 32, c3), (A4, n4, c4)] l (rpC (v0 : Int) (v1 : Int) A2 n2 c2 op SX)) h4.out ?_
  clear h4 th w2 w1
  rintro w1 h0
  have L_c : (rpC (v0 : Int) (v1 : Int) A2 n2 c2 op SX).length = 103 := rpC_len lop L_x _ _ _ _ _
  have RD : Hid (rdR l = ⟨(v0 : Int), (v1 : Int), l.getD 2 [], op, readS16 l4v⟩) := Lib.hid (by rw [hop.out (), hl4.out (), hv0.out (), hv1.out ()]; rfl)
  by_cases g4 : ¬ (EX = 0)
  · have u4 : (EX == 0) = false := by simpa using g4
    have ZF := Lib.hid (N2.out (Bool.eq_false_iff.mpr fun q => g4 (by rw [hEX.out (), hl4.out ()]; exact (FI.out.1 q).2.2.2.2.1)))
    replace h0 := Lib.hid h0
    clear N2 N0 FI CI ZL DM1 RD
    go_wp2_with fail
    refine (DM0.out _).mono ?_
    rintro e w2 ⟨rfl, x2⟩
    have CC := Lib.hid (CF.out w2 p 2 _ _ (h0.out.onto x2).rp (h0.out.onto x2).er L_c)
    have FX := Lib.hid (h0.out.ext.trans x2)
    clear CF h0 x2 DM0
    refine leaves_cons (f := 52) (args := #[.pointer (some ⟨p, 0, none⟩), .pointer (some ⟨p + 1, 0, none⟩)]) (by simp) (by simp [go_sem]) ?_
    refine CC.out.mono ?_
    rintro e u' wZ ⟨rfl, rfl, kZ1, kZ2, xZ⟩
    exact ⟨_, results17 rfl rfl kZ1 kZ2 L_z, RZ.out _ _ _ _ _ ZF.out.1 ZF.out.2 (Below.trans FX.out (xZ _ wp_ (by omega)))⟩
  obtain rfl : EX = 0 := Classical.not_not.1 g4
  have VB : Hid (∀ (W : World), Calls Tryd.prog 44 #[.agg (rpC (v0 : Int) (v1 : Int) A2 n2 c2 op SX).toArray] W fun e w' => e = .returned (.bool (besideB (v0 : Int) (v1 : Int) n2)) ∧ Ext W w') := fun W => beside17_calls
  have FB : Hid (formR l = besideB (v0 : Int) (v1 : Int) n2) := by
    have e1 : besideB (rdR l).id (rdR l).whose (rdR l).txt.length = besideB (v0 : Int) (v1 : Int) n2 := by rw [RD.out]; dsimp only; rw [l2]
    rw [← e1]
    refine Bool.eq_iff_iff.2 ⟨fun q => (FI.out.1 q).2.2.2.2.2, fun q => FI.out.2 ⟨hln, l0, l1, l3, by rw [← hl4.out (), ← hEX.out ()], q⟩⟩
  clear g4 FI
  replace h0 := Lib.hid h0
  go_wp2_with fail
  refine (DM1.out _).mono ?_
  rintro e w2 ⟨rfl, x2⟩
  have h2 := Lib.hid (h0.out.onto x2)
  have k2 := Lib.hid h2.out.rp
  have S_c : (rpC (v0 : Int) (v1 : Int) A2 n2 c2 op SX).toArray.size = 103 := by rw [List.size_toArray, L_c]
  have O_c : (rpC (v0 : Int) (v1 : Int) A2 n2 c2 op SX).toArray.all (·.oneCell') = true := by rw [hSX.out ()]; exact one_cells one_rp
  have FN : Hid (∀ (W W' : World), Rr w W p g [(A0, 4, c0), (A1, 1, c1'), (A2, n2, c2), (A3, 32, c3), (A4, n4, c4)] l (rpC (v0 : Int) (v1 : Int) A2 n2 c2 op SX) → W' = W → formR l = true → RetRp RM RE w (.returned (.tuple #[.agg (rpC (v0 : Int) (v1 : Int) A2 n2 c2 op SX).toArray, .int .i64 0])) W') := fun W W' hR hW hf => by
    obtain ⟨f1, f2⟩ := N0.out hf
    subst hW
    rw [f1, f2, RD.out]
    exact ⟨A2, n2, c2, by rw [hSX.out ()], (hR.rows 2 _ rfl).2.1, hR.ext⟩
  clear h0 x2 hSX hEX hl4 hop hv0 hv1 N0 RD ZL
  obtain ⟨LF, hLF⟩ : ∃ x, x = rpC (v0 : Int) (v1 : Int) A2 n2 c2 op SX := ⟨_, rfl⟩
  rw [← hLF] at h2 k2 VB L_c S_c O_c FN
  clear hLF
  go_wp2_with (first | ((with_reducible refine wpList_load_rowW (o := ⟨some 56, _, _, _, _, _⟩) ?_ 28 _ rfl p ?_ 28 LF.toArray (0, 0) _ ?_ Tryd.underlying28 ?_ ?_ ?_); (· rfl); (· rfl); (· exact k2.out); (· rfl); (· rw [S_c]; rfl); go_frame))
  refine (VB.out _).mono ?_
  rintro e w3 ⟨rfl, x3⟩
  have h3 := Lib.hid (h2.out.onto x3)
  clear h2 k2 x3 VB
  rcases hbe : besideB (v0 : Int) (v1 : Int) n2 with _ | _
  · have ZF := Lib.hid (N2.out (by rw [FB.out, hbe]))
    clear N2 CI DM1 FB hbe FN
    go_wp2_with fail
    refine (DM0.out _).mono ?_
    rintro e w4 ⟨rfl, x4⟩
    have CC := Lib.hid (CF.out w4 p 2 _ _ (h3.out.onto x4).rp (h3.out.onto x4).er L_c)
    have FX := Lib.hid (h3.out.ext.trans x4)
    clear CF h3 x4 DM0
    refine leaves_cons (f := 52) (args := #[.pointer (some ⟨p, 0, none⟩), .pointer (some ⟨p + 1, 0, none⟩)]) (by simp) (by simp [go_sem]) ?_
    refine CC.out.mono ?_
    rintro e u' wZ ⟨rfl, rfl, kZ1, kZ2, xZ⟩
    exact ⟨_, results17 rfl rfl kZ1 kZ2 L_z, RZ.out _ _ _ _ _ ZF.out.1 ZF.out.2 (Below.trans FX.out (xZ _ wp_ (by omega)))⟩
  have hf := Lib.hid (FB.out.trans hbe)
  clear N2 DM0 FB hbe CF
  go_wp2_with fail
  refine (DM1.out _).mono ?_
  rintro e w4 ⟨rfl, x4⟩
  have h4 := Lib.hid (h3.out.onto x4)
  have k4 := Lib.hid h4.out.rp
  have q4 := (h4.out.row (L' := LF)).er
  have c9 := q4.cell (j := 0) rfl
  have z9 := q4.frozen 0
  have h5 : Hid (Rr w ((w4.setRow p LF.toArray).setCell ⟨p + 1, 0, none⟩ (.int .i64 0)) p g [(A0, 4, c0), (A1, 1, c1'), (A2, n2, c2), (A3, 32, c3), (A4, n4, c4)] l LF) := by
    have h := h4.out.row (L' := LF)
    have gr : (w4.setRow p LF.toArray).grownBy ((w4.setRow p LF.toArray).setCell ⟨p + 1, 0, none⟩ (.int .i64 0)) (some (p + 1)) := grown_setCell8
    exact ⟨(gr.block _ h.rp.lt (fun z => by have := Option.some.inj z; omega)).trans h.rp, h.er.setCell, h.gp, Nat.lt_of_lt_of_le h.gl gr.size, fun j v hv => ⟨(World.cell?_of_block (gr.block g h.gl (fun z => by have := Option.some.inj z; have := h.gp; omega))).trans (h.rows j v hv).1, (h.rows j v hv).2.stay gr.size fun i hi hl => gr.block i hl (fun z => by have := Option.some.inj z; omega)⟩, h.new, Below.trans h.ext ⟨gr.os, gr.tape, gr.output, gr.size, fun i hi => gr.block i (Nat.lt_of_lt_of_le hi h.ext.size) (fun z => by have := Option.some.inj z; omega)⟩⟩
  clear h3 x4 DM1 h4 q4
  go_wp2_with (first
    | ((with_reducible refine wpList_load_rowW (o := ⟨some 59, _, _, _, _, _⟩) ?_ 28 _ rfl p ?_ 28 LF.toArray (0, 0) _ ?_ Tryd.underlying28 ?_ ?_ ?_); (· rfl); (· rfl); (· exact k4.out); (· rfl); (· rw [S_c]; rfl); go_frame)
    | (refine wpList_store_row rfl 28 _ _ rfl p LF.toArray rfl rfl 28 LF.toArray k4.out (by rw [S_c]; rfl) rfl O_c ?_; go_frame))
  clear c9 z9 k4
  generalize (w4.setRow p LF.toArray).setCell ⟨p + 1, 0, none⟩ (.int .i64 0) = WF at *
  refine leaves_cons (f := 52) (args := #[.pointer (some ⟨p, 0, none⟩), .pointer (some ⟨p + 1, 0, none⟩)]) (by simp) (by simp [go_sem]) ?_
  refine (CI.out _ _ _).mono ?_
  rintro e u' w6 ⟨rfl, rfl, e6⟩
  exact ⟨_, results17 rfl rfl (h5.out.onto e6).rp (h5.out.onto e6).er L_c, FN.out w6 w6 (h5.out.onto e6) rfl hf.out⟩
end Go.Proofs.YtmnohmhhmaeljaaDoor
