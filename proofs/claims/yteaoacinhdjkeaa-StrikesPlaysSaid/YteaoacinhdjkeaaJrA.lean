import Derived.Test.YteaoacinhdjkeaaPkL
import Derived.Test.YteaoacinhdjkeaaDkS
/-
  The journal: Append, Len.
-/
namespace Go.Proofs.Yteaoacinhdjkeaa
open Go.ChangeShapes Go.WideShapes Go.ChangeAt Go.RowKit Go.Deep Go.Maps
set_option maxRecDepth 100000

def Ds.jE (d : Ds) (k : Nat) (xs : List UInt8) : Int := if 59 < xs.length then 1 else if d.S.length ≤ k then 8 else if d.fails then 13 else if (d.write (k : Int) (secL k xs)).fails then 13 else 0
def Ds.jD (d : Ds) (k : Nat) (xs : List UInt8) : Ds := if 59 < xs.length then d else if d.S.length ≤ k then d else if d.fails then d.burn else if (d.write (k : Int) (secL k xs)).fails then (d.write (k : Int) (secL k xs)).burn else (d.write (k : Int) (secL k xs)).burn.flush
def Ds.jL (d : Ds) (L : List (List UInt8)) (xs : List UInt8) : List (List UInt8) := if d.jE L.length xs = 0 then L ++ [xs] else L
/-- The blocks of a disk; of a journal with it. -/
def Pd22 (dg r mb : Nat) (i : Nat) : Prop := i = dg ∨ i = r ∨ i = mb
def Pj22 (g dg r mb : Nat) (o : Option Nat) (i : Nat) : Prop := i = dg ∨ i = r ∨ i = mb ∨ i = g ∨ o = some i

theorem JS.ot {p : Nat → Prop} {B : Nat} {R : Nat → Prop} {w w' : World} {g dg : Nat} {D : Option Addr} {c : Nat} {L : List (List UInt8)} (h : JS B R w g dg D c L) (k : Ot p w w') (hg : ¬ p g) (h1 : ∀ i, p i → Value.ownBlock (.slice D L.length c) ≠ some i) (h2 : ∀ i, p i → R i ∨ ∀ (j : Nat) (x : Int), w.cell? ⟨i, j, none⟩ ≠ some (.int .u8 x)) : JS B R w' g dg D c L :=
  ⟨(k.same (heap_lt h.1) hg).trans h.1, h.2.1.ot k h1 h2, h.2.2⟩
theorem DK.no_u8 {w : World} {dg r mb : Nat} {d : Ds} (h : DK w dg r mb d) (j : Nat) (x : Int) : w.cell? ⟨dg, j, none⟩ ≠ some (.int .u8 x) := by
  have hc := h.cb
  unfold Cb at hc
  simp only [World.cell?, hc]
  intro q
  have q : (d.cells r mb)[j]? = some (.int .u8 x) := by simpa using q
  have := List.mem_of_getElem? q
  simp [Ds.cells] at this
theorem read_len22 {d : Ds} (ok : d.ok) (i : Int) : (d.read i).length = 64 := by
  unfold Ds.read
  split
  · rename_i q
    cases hN : d.N i.toNat with
    | some s => exact (ok.nl _ _ hN).1
    | none =>
      simp only [Option.getD_none]
      have hi : i.toNat < d.S.length := by omega
      rw [List.getD_eq_getElem?_getD, List.getElem?_eq_getElem hi]
      exact ok.sl _ (List.getElem_mem hi)
  · simp
/-- A disk's blocks are none of a journal's. -/
theorem jk_apart {B : Nat} {R : Nat → Prop} {w : World} {g dg r mb : Nat} {D : Option Addr} {c : Nat} {L : List (List UInt8)} {d : Ds} (hj : JS B R w g dg D c L) (hd : DK w dg r mb d) (hrB : R r) :
    ¬ Pd22 dg r mb g ∧ (∀ i, Pd22 dg r mb i → Value.ownBlock (.slice D L.length c) ≠ some i) ∧ (∀ i, Pd22 dg r mb i → R i ∨ ∀ (j : Nat) (x : Int), w.cell? ⟨i, j, none⟩ ≠ some (.int .u8 x)) := by
  obtain ⟨gC, own, _⟩ := hj
  obtain ⟨es, cl, hmp⟩ := hd.mp.obj
  have mo : ∀ cs t f, Obj.map es cl ≠ .cells cs t f := fun _ _ _ q => by cases q
  refine ⟨?_, ?_, ?_⟩
  · rintro (q | q | q)
    · exact cb_differ gC hd.cb (by decide) q
    · exact cb_differ gC hd.row (by decide) q
    · subst q; exact mo _ _ _ (Option.some.inj (hmp.symm.trans gC))
  · rintro i (q | q | q)
    · subst q; exact own.ne_of hd.cb (by decide)
    · subst q; exact own.ne_of hd.row (by decide)
    · subst q; exact own.ne_obj hmp mo
  · rintro i (q | q | q)
    · subst q; exact .inr hd.no_u8
    · subst q; exact .inl hrB
    · subst q; exact .inr fun j x => no_cell hmp mo j _

set_option maxHeartbeats 4000000 in
theorem jappend_calls {w : World} {B g dg r mb : Nat} {R : Nat → Prop} {d : Ds} {D : Option Addr} {c : Nat} {L : List (List UInt8)} {A : Option Addr} {n c' : Nat} {xs : List UInt8} (hj : JS B R w g dg D c L) (hd : DK w dg r mb d) (hrB : R r) (hRw : ∀ i, R i → i < w.heap.size) (hwB : B ≤ w.heap.size) (hL : L.length ≤ 64) (hM : ∀ s, Ot (Pd22 dg r mb) w s → Bs s A n c' xs) (hn : n ≤ 1000000) :
    Calls Try.prog 16 #[.pointer (some ⟨g, 0, none⟩), .slice A n c'] w fun e w' => e = .returned (.int .i64 (d.jE L.length xs)) ∧ ∃ mb' D' c2, DK w' dg r mb' (d.jD L.length xs) ∧ JS B R w' g dg D' c2 (d.jL L xs) ∧ Ot (Pj22 g dg r mb (Value.ownBlock (.slice D L.length c))) w w' ∧ (mb' = mb ∨ w.heap.size ≤ mb') ∧
      (Value.ownBlock (.slice D' (d.jL L xs).length c2) = Value.ownBlock (.slice D L.length c) ∨ ∃ i, Value.ownBlock (.slice D' (d.jL L xs).length c2) = some i ∧ w.heap.size ≤ i) := by
  have hb := hM w (Ot.refl _ _)
  have hx := hb.len
  have h1 := hb.le
  have h2 := hb.cap
  by_cases a59 : 59 < n
  · have e : d.jE L.length xs = 1 := if_pos (by omega)
    have F : Hid (d.jD L.length xs = d ∧ d.jL L xs = L) := ⟨if_pos (by omega), if_neg (by rw [e]; decide)⟩
    rw [e]
    replace hj := Lib.hid hj
    replace hd := Lib.hid hd
    have l1 : decide ((59 : Int) < (n : Int)) = true := decide_eq_true (by omega)
    go_enter Try.func16, Try.ntmps16
    go_wp2_with fail
    go_ret
    refine ⟨rfl, mb, D, c, ?_⟩
    rw [F.out.1, F.out.2]
    exact ⟨hd.out, hj.out, Ot.refl _ _, .inl rfl, .inl rfl⟩
  · have l1 : decide ((59 : Int) < (n : Int)) = false := decide_eq_false (by omega)
    have S_L := Lib.hid (secL_len (i := L.length) (xs := xs) (by omega))
    obtain ⟨pn, pown, pu8⟩ := jk_apart hj hd hrB
    have ok := hd.ok
    have dm := ok.most
    have RD : Hid (∀ s, Ext w s → Calls Try.prog 43 #[.pointer (some ⟨dg, 0, none⟩), .int .i64 (L.length : Int)] s fun e w' => e = .returned (.tuple #[.agg (cellsOf (d.read (L.length : Int))).toArray, .int .i64 (d.readE (L.length : Int))]) ∧ Ext s w') := fun s e => dread_calls (hd.ext e)
    have L6 := read_len22 ok (L.length : Int)
    have C0 : Hid (∀ s, Ext w s → s.cell? ⟨g, 0, none⟩ = some (.pointer (some ⟨dg, 0, none⟩)) ∧ s.cell? ⟨g, 1, none⟩ = some (.slice D L.length c)) := fun s e => ⟨(hj.1.ext e).cell rfl, (hj.1.ext e).cell rfl⟩
    have C00 := C0.out w (Ext.refl w)
    have RD0 := Lib.hid (RD.out w (Ext.refl w))
    clear RD
    have hal := sector_alloc
    have hzs : zS64.toArray.size = 64 := by rw [List.size_toArray, zS64_len]
    obtain ⟨Z, hZ⟩ : ∃ q, q = zS64 := ⟨_, rfl⟩
    rw [← hZ] at hal hzs
    clear hZ
    have hz6 : Hid (Z.toArray.size = 64) := hzs
    clear hzs
    obtain ⟨s, hs⟩ : ∃ q, q = d.read (L.length : Int) := ⟨_, rfl⟩
    rw [← hs] at RD0 L6
    clear hs
    have S_s : Hid ((cellsOf s).toArray.size = 64) := by unfold Hid; simp [cellsOf_len, L6]
    have O_s := Lib.hid (cellsOf_one s)
    by_cases hk : L.length < d.S.length
    · have e0 : d.readE (L.length : Int) = 0 := if_pos ⟨by omega, by omega⟩
      rw [e0] at RD0
      have kin : 0 ≤ (L.length : Int) ∧ (L.length : Int) < (d.S.length : Int) := ⟨by omega, by omega⟩
      have WR : Hid (∀ s, Ext w s → Calls Try.prog 22 #[.pointer (some ⟨dg, 0, none⟩), .int .i64 (L.length : Int), .agg (cellsOf (secL L.length xs)).toArray] s fun e w' => e = .returned (.int .i64 (d.writeE (L.length : Int))) ∧ DK w' dg r mb (d.write (L.length : Int) (secL L.length xs)) ∧ Two dg mb s w') := fun s e => dwrite_calls (hd.ext e) S_L.out
      have wE : d.writeE (L.length : Int) = if d.fails then 13 else 0 := by unfold Ds.writeE; rw [if_pos kin]
      have WF : Hid (d.fails = true → d.write (L.length : Int) (secL L.length xs) = d.burn) := fun q => by unfold Ds.write; rw [if_pos kin, if_pos q]
      rw [wE] at WR
      have SEC : Hid (∀ s, Ext w s → Calls Try.prog 44 #[.int .i64 (L.length : Int), .slice A n c'] s fun e w' => e = .returned (.agg (cellsOf (secL L.length xs)).toArray) ∧ Ext s w') := fun s e => jsector_calls (by omega) (hM s (Ot.of_ext e)) (by omega)
      have FE : Hid (d.jE L.length xs = if d.fails then 13 else if (d.write (L.length : Int) (secL L.length xs)).fails then 13 else 0) := by unfold Hid Ds.jE; rw [if_neg (by omega), if_neg (by omega)]
      have FD : Hid (d.jD L.length xs = if d.fails then d.burn else if (d.write (L.length : Int) (secL L.length xs)).fails then (d.write (L.length : Int) (secL L.length xs)).burn else (d.write (L.length : Int) (secL L.length xs)).burn.flush) := by unfold Hid Ds.jD; rw [if_neg (by omega), if_neg (by omega)]
      have FL : Hid (d.jL L xs = if d.jE L.length xs = 0 then L ++ [xs] else L) := rfl
      obtain ⟨d1, hd1⟩ : ∃ q, q = d.write (L.length : Int) (secL L.length xs) := ⟨_, rfl⟩
      rw [← hd1] at WR WF FE FD
      clear hd1 wE
      generalize secL L.length xs = sec at *
      obtain ⟨jE, hjE⟩ : ∃ q, q = d.jE L.length xs := ⟨_, rfl⟩
      obtain ⟨jD, hjD⟩ : ∃ q, q = d.jD L.length xs := ⟨_, rfl⟩
      obtain ⟨jL, hjL⟩ : ∃ q, q = d.jL L xs := ⟨_, rfl⟩
      rw [← hjE] at FE FL ⊢
      rw [← hjD] at FD ⊢
      rw [← hjL] at FL ⊢
      clear hjE hjD hjL
      obtain ⟨fa, hfa⟩ : ∃ q, q = d.fails := ⟨_, rfl⟩
      rw [← hfa] at WR WF FE FD
      clear hfa
      have JT : Hid (∀ s, Ot (Pd22 dg r mb) w s → JS B R s g dg D c L) := fun s k => hj.ot k pn pown pu8
      have gdg : g ≠ dg := fun q => pn (.inl q)
      have gmb : g ≠ mb := fun q => pn (.inr (.inr q))
      have glt := hj.1.lt
      have OP : Hid (∀ s, Ot (Pd22 dg r mb) w s → Ot (Pj22 g dg r mb (Value.ownBlock (.slice D L.length c))) w s) := fun s k => k.mono fun i _ q => q.elim .inl fun q => q.elim (fun q => .inr (.inl q)) fun q => .inr (.inr (.inl q))
      obtain ⟨c0, c1⟩ := C00
      replace hM := Lib.hid hM
      clear hj hd pn pown pu8 S_L
      go_enter Try.func16, Try.ntmps16
      go_wp2_with fail
      refine RD0.out.mono ?_
      rintro e w1 ⟨rfl, x1⟩
      have zE := Lib.hid (heap_alloc_new w1 (.cells Z.toArray 45))
      obtain ⟨r4, hr4⟩ : ∃ q, q = w1.heap.size := ⟨_, rfl⟩
      rw [← hr4] at zE
      have F4 : Hid (Ext w ((w1.alloc (.cells Z.toArray 45)).setRow r4 (cellsOf s).toArray)) := x1.trans (by rw [hr4]; exact Ext.newRow w1 _ _)
      clear x1 RD0
      go_upto_region 5 with (refine wpList_store_row rfl 45 _ _ rfl r4 (cellsOf s).toArray ?_ rfl 45 Z.toArray zE.out ?_ ?_ O_s.out ?_; (rw [hr4]; rfl); (rw [S_s.out]; rfl); (rw [S_s.out, hz6.out]); simp only [Act.put])
      refine wp_gen (fun V => Ext w V) F4.out ?_
      clear F4 zE hal c0 c1
      intro w2 x2
      have KP : Hid (∀ s, Two dg mb w2.drew s → s.cell? ⟨g, 0, none⟩ = some (.pointer (some ⟨dg, 0, none⟩))) := fun s e => by
        have a0 := (C0.out w2 x2).1
        exact (World.cell?_of_block (e.2.2.2.2 g (Nat.lt_of_lt_of_le glt x2.size) gdg gmb)).trans a0
      have JS2 := Lib.hid (SEC.out w2.drew x2.drew)
      replace x2 : Hid (Ext w w2.drew) := x2.drew
      clear SEC C0
      go_upto_region 7 with fail
      refine qgR (R := Two dg mb) (Two.refl _ _) (fun _ _ _ => Two.trans) [0, 1, 2, 3, 4, 5, 6, 7, 8, 9] [7, 8] ?_
      repeat ((first | refine qR _ (fun w' e => KP.out w' e) ?_ | refine qS ?_); go_frame)
      generalize w2.drew = V at *
      refine qD fun K hK => ?_
      go_simp
      refine JS2.out.mono ?_
      rintro e w3 ⟨rfl, x3⟩
      refine hK.out _ _ (Two.of_ext x3) ?_
      clear hK K
      try go_frame
      have WR3 := Lib.hid (WR.out w3 (x2.out.trans x3))
      have x03 := Lib.hid (x2.out.trans x3)
      clear JS2 WR KP x3 x2
      repeat ((first | refine qR0 ?_ | refine qS ?_); go_frame)
      refine qD fun K hK => ?_
      go_simp
      refine WR3.out.mono ?_
      rintro e w4 ⟨rfl, dk4, t4⟩
      refine hK.out _ _ t4 ?_
      clear hK K
      try go_frame
      have T4 : Hid (Ot (Pd22 dg r mb) w w4) := (Ot.of_ext x03.out).trans (Ot.of_two t4 (.inl rfl) (.inr (.inr rfl)))
      replace dk4 := Lib.hid dk4
      clear WR3 t4 x03
      repeat ((first | refine qR0 ?_ | refine qS ?_); go_frame)
      refine seq_done ?_
      cases fa with
      | true =>
        have F : Hid (jE = 13 ∧ jD = d1 ∧ jL = L) := by
          have e1 : jE = 13 := by rw [FE.out]; rfl
          refine ⟨e1, ?_, ?_⟩
          · rw [FD.out, WF.out rfl]; rfl
          · rw [FL.out, e1]; rfl
        clear FE FD FL WF
        go_wp2_with fail
        go_ret
        refine ⟨by rw [F.out.1]; rfl, mb, D, c, ?_⟩
        rw [F.out.2.1, F.out.2.2]
        exact ⟨dk4.out, JT.out _ T4.out, OP.out _ T4.out, .inl rfl, .inl rfl⟩
      | false =>
        clear WF
        have jk4 := JT.out _ T4.out
        have c0 := jk4.1.cell (j := 0) rfl
        have SY := Lib.hid (dsync_calls dk4.out)
        obtain ⟨fb, hfb⟩ : ∃ q, q = d1.fails := ⟨_, rfl⟩
        rw [← hfb] at SY FE FD
        clear hfb dk4 jk4
        go_wp2_with fail
        refine SY.out.mono ?_
        rintro e w5 ⟨rfl, mb', dk5, hmb, t5⟩
        have T5 : Hid (Ot (Pd22 dg r mb) w w5) := T4.out.trans (Ot.of_two t5 (.inl rfl) (.inr (.inl rfl)))
        have hmb' : Hid (mb' = mb ∨ w.heap.size ≤ mb') := hmb.imp id fun q => Nat.le_trans T4.out.size q
        replace dk5 := Lib.hid dk5
        clear SY c0 T4 t5 hmb
        cases fb with
        | true =>
          have F : Hid (jE = 13 ∧ jD = d1.burn ∧ jL = L) := by
            have e1 : jE = 13 := by rw [FE.out]; rfl
            refine ⟨e1, ?_, ?_⟩
            · rw [FD.out]; rfl
            · rw [FL.out, e1]; rfl
          clear FE FD FL
          go_wp2_with fail
          go_ret
          refine ⟨by rw [F.out.1]; rfl, mb', D, c, ?_⟩
          rw [F.out.2.1, F.out.2.2]
          exact ⟨dk5.out, JT.out _ T5.out, OP.out _ T5.out, hmb'.out, .inl rfl⟩
        | false =>
          have F : Hid (jE = 0 ∧ jD = d1.burn.flush ∧ jL = L ++ [xs]) := by
            have e1 : jE = 0 := by rw [FE.out]; rfl
            refine ⟨e1, ?_, ?_⟩
            · rw [FD.out]; rfl
            · rw [FL.out, e1]; rfl
          clear FE FD FL
          obtain ⟨jg, jo, jB⟩ := JT.out _ T5.out
          have ng := jo.ne_of jg (by decide)
          have KP : Hid (∀ s, w5.drew.grownBy s (Value.ownBlock (.slice D L.length c)) → s.cell? ⟨g, 1, none⟩ = some (.slice D L.length c)) := fun s e => by
            have a2 : Cb s g 91 [.pointer (some ⟨dg, 0, none⟩), .slice D L.length c] := (e.block _ (heap_lt jg) (fun q => ng q.symm)).trans jg
            exact a2.cell rfl
          have KQ : Hid (∀ s, w5.drew.grownBy s (Value.ownBlock (.slice D L.length c)) → Cb s g 91 [.pointer (some ⟨dg, 0, none⟩), .slice D L.length c] ∧ DK s dg r mb' jD ∧ Ot (Pj22 g dg r mb (Value.ownBlock (.slice D L.length c))) w s) := fun s e => by
            refine ⟨(e.block _ (heap_lt jg) (fun q => ng q.symm)).trans jg, ?_, (OP.out _ T5.out).trans ⟨e.os, e.tape, e.output, e.size, fun i hi hn => e.block i hi (fun q => hn (.inr (.inr (.inr (.inr q.symm)))))⟩⟩
            rw [F.out.2.1]
            have dk := dk5.out
            obtain ⟨es, cl, hmp⟩ := dk.mp.obj
            exact dk.stay (e.block _ dk.cb.lt (fun q => jo.ne_of dk.cb (by decide) q.symm)) (e.block _ dk.row.lt (fun q => jo.ne_of dk.row (by decide) q.symm)) (e.block _ dk.mp.lt (fun q => jo.ne_obj hmp (fun _ _ _ q => by cases q) q.symm))
          have CP := Lib.hid (jcopied_calls (w := w5.drew) ((hM.out _ T5.out).ext (Ext.refl w5).drew) (by omega))
          have sz5 : Hid (w.heap.size ≤ w5.drew.heap.size) := T5.out.size
          have szB : B ≤ w5.drew.heap.size := by have := heap_lt jg; show B ≤ w5.heap.size; omega
          replace jo : Hid (OwnS B R w5.drew D L.length c L) := jo.ext (Ext.refl w5).drew
          replace jB := Lib.hid jB
          replace ng := Lib.hid ng
          clear jg JT OP hM dk5 T5
          go_upto_region 13 with fail
          refine qgZ (R := fun a b => a.grownBy b (Value.ownBlock (.slice D L.length c))) (fun w => World.grownBy.refl w _) (fun _ _ _ => gr_trans) 11 [0, 1, 2, 3, 4, 5, 6, 7, 8, 9, 10, 11] [6, 7, 8, 11] ?_
          repeat (refine qzR _ (fun w' e => KP.out w' e) ?_; go_frame)
          generalize w5.drew = V at *
          refine qzD fun K hK => ?_
          go_simp
          refine CP.out.mono ?_
          rintro e w6 ⟨A6, n6, c6, rfl, o6, x6⟩
          refine hK.out _ _ (Or.inr ⟨x6.os, x6.tape, x6.output, x6.size, fun i hi _ => x6.block i hi⟩) ?_
          clear hK K
          try go_frame
          have T6 : Hid (V.grownBy w6 (Value.ownBlock (.slice D L.length c))) := ⟨x6.os, x6.tape, x6.output, x6.size, fun i hi _ => x6.block i hi⟩
          have far := Lib.hid (far_of_newS o6 jo.out (fun i q => Nat.lt_of_lt_of_le (hRw i q) sz5.out))
          have jo6 := Lib.hid (jo.out.ext x6)
          have b6 := Lib.hid o6.bs
          have sz6 : B ≤ w6.heap.size := Nat.le_trans szB x6.size
          have sz06 : Hid (w.heap.size ≤ w6.heap.size) := Nat.le_trans sz5.out x6.size
          clear CP jo o6 x6 KP szB sz5
          refine qzD fun K hK => ?_
          go_simp
          refine hK.out _ _ (.inr (World.grownBy_alloc _ _ _)) ?_
          clear hK K
          have hc := Lib.hid ((Cb.new w6 37 [.slice A6 n6 c6]).cell (j := 0) rfl)
          have jo3 := Lib.hid (jo6.out.ext ((Ext.refl w6).alloc (.cells #[.slice A6 n6 c6] 37)))
          have b3 := Lib.hid (b6.out.ext ((Ext.refl w6).alloc (.cells #[.slice A6 n6 c6] 37)))
          have g0 := Lib.hid (gr_trans T6.out (World.grownBy_alloc w6 (.cells #[.slice A6 n6 c6] 37) (Value.ownBlock (.slice D L.length c))))
          have sz3 : B ≤ (w6.alloc (.cells #[.slice A6 n6 c6] 37)).heap.size := by rw [World.size_alloc]; omega
          have sz03 : Hid (w.heap.size ≤ (w6.alloc (.cells #[.slice A6 n6 c6] 37)).heap.size) := by unfold Hid; rw [World.size_alloc]; have := sz06.out; omega
          clear jo6 b6 T6 sz6 sz06
          refine qzD fun K hK => ?_
          refine wp_append_s1 (B := B) (b := w6.heap.size) rfl rfl rfl jo3.out hc.out b3.out far.out (by omega) sz3 ?_
          intro D2 c2 w7 o7 g7 e7
          refine hK.out _ _ (.inr g7) ?_
          clear hK K
          obtain ⟨jg7, dk7, ot7⟩ := KQ.out w7 (gr_trans g0.out g7)
          have E7 : Hid (Value.ownBlock (.slice D2 (L.length + 1) c2) = Value.ownBlock (.slice D L.length c) ∨ ∃ i, Value.ownBlock (.slice D2 (L.length + 1) c2) = some i ∧ w.heap.size ≤ i) := e7.imp id fun q => ⟨_, q, sz03.out⟩
          clear KQ jo3 b3 hc g0 g7 e7 far sz3 sz03
          have cg := jg7.cell (j := 1) rfl
          have fg := jg7.frozen 1
          replace jg7 := Lib.hid jg7
          replace dk7 := Lib.hid dk7
          replace ot7 := Lib.hid ot7
          replace o7 := Lib.hid o7
          repeat (refine qzR0 ?_; go_frame)
          refine qzD fun K hK => ?_
          go_simp
          refine hK.out _ _ (.inl rfl) ?_
          clear hK K cg fg
          refine seqZ_done ?_
          have gr1 := gr_cell22 w7 g 1 (.slice D2 (L.length + 1) c2)
          have F8 : Hid (DK (w7.setCell ⟨g, 1, none⟩ (.slice D2 (L.length + 1) c2)) dg r mb' jD ∧ JS B R (w7.setCell ⟨g, 1, none⟩ (.slice D2 (L.length + 1) c2)) g dg D2 c2 jL ∧ Ot (Pj22 g dg r mb (Value.ownBlock (.slice D L.length c))) w (w7.setCell ⟨g, 1, none⟩ (.slice D2 (L.length + 1) c2))) := by
            have dk := dk7.out
            obtain ⟨es, cl, hmp⟩ := dk.mp.obj
            have q1 : g ≠ dg := cb_differ jg7.out dk.cb (by decide)
            have q2 : g ≠ r := cb_differ jg7.out dk.row (by decide)
            have q3 : g ≠ mb' := fun q => by
              subst q
              have := jg7.out
              unfold Cb at this
              rw [hmp] at this
              cases this
            refine ⟨dk.stay (gr1.block _ dk.cb.lt (fun q => q1 (Option.some.inj q).symm)) (gr1.block _ dk.row.lt (fun q => q2 (Option.some.inj q).symm)) (gr1.block _ dk.mp.lt (fun q => q3 (Option.some.inj q).symm)), ?_, ot7.out.trans (Ot.of_grown gr1 (.inr (.inr (.inr (.inl rfl)))))⟩
            rw [F.out.2.2]
            refine ⟨?_, ?_, jB.out⟩
            · rw [show (L ++ [xs]).length = L.length + 1 by simp]
              exact jg7.out.setCell
            · rw [show (L ++ [xs]).length = L.length + 1 by simp]
              exact o7.out.turn jg7.out (by decide) (by rintro v hv i rfl; simp at hv) gr1
          clear jg7 dk7 ot7 o7 gr1
          generalize w7.setCell ⟨g, 1, none⟩ (.slice D2 (L.length + 1) c2) = w8 at *
          go_wp2_with fail
          go_ret
          refine ⟨by rw [F.out.1]; rfl, mb', D2, c2, F8.out.1, F8.out.2.1, F8.out.2.2, hmb'.out, ?_⟩
          rw [F.out.2.2, show (L ++ [xs]).length = L.length + 1 by simp]
          exact E7.out
    · have e0 : d.readE (L.length : Int) = 1 := if_neg (by omega)
      rw [e0] at RD0
      have e : d.jE L.length xs = 8 := by unfold Ds.jE; rw [if_neg (by omega), if_pos (by omega)]
      have F : Hid (d.jD L.length xs = d ∧ d.jL L xs = L) := ⟨by unfold Ds.jD; rw [if_neg (by omega), if_pos (by omega)], if_neg (by rw [e]; decide)⟩
      rw [e]
      replace hj := Lib.hid hj
      replace hd := Lib.hid hd
      obtain ⟨c0, c1⟩ := C00
      clear C0 pn pown pu8 hb hM S_L
      go_enter Try.func16, Try.ntmps16
      go_wp2_with fail
      refine RD0.out.mono ?_
      rintro e w1 ⟨rfl, x1⟩
      have zE := Lib.hid (heap_alloc_new w1 (.cells Z.toArray 45))
      obtain ⟨r4, hr4⟩ : ∃ q, q = w1.heap.size := ⟨_, rfl⟩
      rw [← hr4] at zE
      have F4 : Hid (Ext w ((w1.alloc (.cells Z.toArray 45)).setRow r4 (cellsOf s).toArray)) := x1.trans (by rw [hr4]; exact Ext.newRow w1 _ _)
      clear x1
      go_upto_region 5 with (refine wpList_store_row rfl 45 _ _ rfl r4 (cellsOf s).toArray ?_ rfl 45 Z.toArray zE.out ?_ ?_ O_s.out ?_; (rw [hr4]; rfl); (rw [S_s.out]; rfl); (rw [S_s.out, hz6.out]); simp only [Act.put])
      refine wp_gen (fun V => Ext w V) F4.out ?_
      clear F4 zE hal
      intro w2 x2
      replace x2 := Lib.hid x2
      go_wp2_with fail
      go_ret
      refine ⟨rfl, mb, D, c, ?_⟩
      rw [F.out.1, F.out.2]
      exact ⟨hd.out.ext x2.out, hj.out.ext x2.out, Ot.of_ext x2.out, .inl rfl, .inl rfl⟩
end Go.Proofs.Yteaoacinhdjkeaa
