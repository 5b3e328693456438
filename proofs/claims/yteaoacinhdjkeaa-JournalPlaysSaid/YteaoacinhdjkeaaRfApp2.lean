import Derived.Test.YteaoacinhdjkeaaPkA
/-
  palfreyref22: Append (its long way).
-/
namespace Go.Proofs.Yteaoacinhdjkeaa
open Go.ChangeShapes Go.WideShapes Go.ChangeAt Go.RowKit Go.Deep Go.Maps
set_option maxRecDepth 100000

set_option maxHeartbeats 4000000 in
theorem rjappend_long {w : World} {B g dg r m ir : Nat} {R : Nat → Prop} {d : Ds} {X : List (List UInt8)} {D : Option Addr} {c : Nat} {L : List (List UInt8)} {A : Option Addr} {n c' : Nat} {xs : List UInt8} (hj : RS B R w g dg D c L) (hd : RD w dg r m ir d X) (hM : ∀ s, Ot (Rp dg r m ir) w s → Bs s A n c' xs) (hJT : ∀ s, Ot (Rp dg r m ir) w s → RS B R s g dg D c L) (hn : n ≤ 59) (hk : L.length < d.S.length) (hgp : ¬ Rp dg r m ir g) (hRw : ∀ i, R i → i < w.heap.size) :
    Calls Try.prog 17 #[.pointer (some ⟨g, 0, none⟩), .slice A n c'] w fun e w' => e = .returned (.int .i64 (d.jE L.length xs)) ∧ (∃ X', RD w' dg r m ir (d.jD L.length xs) X') ∧ ∃ D' c2, RS B R w' g dg D' c2 (d.jL L xs) ∧ Ot (fun i => Rp dg r m ir i ∨ i = g) w w' ∧
      (Value.ownBlock (.slice D' (d.jL L xs).length c2) = Value.ownBlock (.slice D L.length c) ∨ ∃ i, Value.ownBlock (.slice D' (d.jL L xs).length c2) = some i ∧ w.heap.size ≤ i) := by
  have hb := hM w (Ot.refl _ _)
  have hx := hb.len
  have h1 := hb.le
  have h2 := hb.cap
  have ok := hd.ok
  have dm := ok.most
  have l1 : decide ((59 : Int) < (n : Int)) = false := decide_eq_false (by omega)
  have l2 : ¬ (d.S.length : Int) ≤ (L.length : Int) := by omega
  have S_L := Lib.hid (secL_len (i := L.length) (xs := xs) (by omega))
  have kin : 0 ≤ (L.length : Int) ∧ (L.length : Int) < (d.S.length : Int) := ⟨by omega, by omega⟩
  have wE : d.writeE (L.length : Int) = if d.fails then 13 else 0 := by unfold Ds.writeE; rw [if_pos kin]
  have WF : Hid (d.fails = true → d.write (L.length : Int) (secL L.length xs) = d.burn) := fun q => by unfold Ds.write; rw [if_pos kin, if_pos q]
  have WR : Hid (∀ s, Ext w s → Calls Try.prog 23 #[.pointer (some ⟨dg, 0, none⟩), .int .i64 (L.length : Int), .agg (cellsOf (secL L.length xs)).toArray] s fun e w' => e = .returned (.int .i64 (d.writeE (L.length : Int))) ∧ (∃ X', RD w' dg r m ir (d.write (L.length : Int) (secL L.length xs)) X') ∧ Ot (Rp dg r m ir) s w') := fun s e => rwrite_calls (hd.ext e) S_L.out
  rw [wE] at WR
  have SEC : Hid (∀ s, Ext w s → Calls Try.prog 47 #[.int .i64 (L.length : Int), .slice A n c'] s fun e w' => e = .returned (.agg (cellsOf (secL L.length xs)).toArray) ∧ Ext s w') := fun s e => rsector22_calls (by omega) (hM s (Ot.of_ext e)) (by omega)
  have FE : Hid (d.jE L.length xs = if d.fails then 13 else if (d.write (L.length : Int) (secL L.length xs)).fails then 13 else 0) := by unfold Hid Ds.jE; rw [if_neg (by omega), if_neg (by omega)]
  have FD : Hid (d.jD L.length xs = if d.fails then d.burn else if (d.write (L.length : Int) (secL L.length xs)).fails then (d.write (L.length : Int) (secL L.length xs)).burn else (d.write (L.length : Int) (secL L.length xs)).burn.flush) := by unfold Hid Ds.jD; rw [if_neg (by omega), if_neg (by omega)]
  have FL : Hid (d.jL L xs = if d.jE L.length xs = 0 then L ++ [xs] else L) := rfl
  obtain ⟨d1, hd1⟩ : ∃ q, q = d.write (L.length : Int) (secL L.length xs) := ⟨_, rfl⟩
  rw [← hd1] at WR WF FE FD
  clear hd1 wE
  generalize secL L.length xs = sec at *
  obtain ⟨jE, hjE⟩ : ∃ q, q = d.jE L.length xs := ⟨_, rfl⟩
  obtain ⟨jD, hjD⟩ : ∃ q, q = d.jD L.length xs := ⟨_, rfl⟩
  obtain ⟨jL, hjL⟩ : ∃ q, q = d.jL L xs := ⟨_, rfl⟩
  rw [← hjE] at FE FL ⊢
  rw [← hjD] at FD ⊢
  rw [← hjL] at FL ⊢
  clear hjE hjD hjL
  obtain ⟨fa, hfa⟩ : ∃ q, q = d.fails := ⟨_, rfl⟩
  rw [← hfa] at WR WF FE FD
  clear hfa
  have OP : Hid (∀ s, Ot (Rp dg r m ir) w s → Ot (fun i => Rp dg r m ir i ∨ i = g) w s) := fun s k => k.mono fun i _ q => .inl q
  have KP3 : Hid (∀ s, Ext w.drew s → s.cell? ⟨g, 0, none⟩ = some (.pointer (some ⟨dg, 0, none⟩)) ∧ s.cell? ⟨g, 1, none⟩ = some (.slice D L.length c) ∧ s.cell? ⟨dg, 0, none⟩ = some (.slice (some ⟨r, 0, none⟩) d.S.length d.S.length)) := fun s x =>
    ⟨((hj.1.ext (Ext.refl w).drew).ext x).cell rfl, ((hj.1.ext (Ext.refl w).drew).ext x).cell rfl, ((hd.ext (Ext.refl w).drew).ext x).cb.cell rfl⟩
  have KP5 : Hid (∀ s, Ot (Rp dg r m ir) w.drew.drew s → s.cell? ⟨g, 0, none⟩ = some (.pointer (some ⟨dg, 0, none⟩)) ∧ s.cell? ⟨g, 1, none⟩ = some (.slice D L.length c)) := fun s k => by
    have := (hJT s ((Ot.of_ext ((Ext.refl w).drew.drew)).trans k)).1
    exact ⟨this.cell rfl, this.cell rfl⟩
  have SEC5 := Lib.hid (SEC.out w.drew.drew ((Ext.refl w).drew.drew))
  have X5 : Hid (Ext w w.drew.drew) := (Ext.refl w).drew.drew
  replace hM := Lib.hid hM
  replace hJT := Lib.hid hJT
  clear hj hd SEC S_L hb
  go_enter Try.func17, Try.ntmps17
  go_upto_region 3 with fail
  refine qgE [0, 1, 2, 3, 4, 5, 6, 7, 8, 9, 10, 11, 12, 13] [] ?_
  repeat ((first | refine qR _ (fun w' e => KP3.out w' e) ?_ | refine qS ?_); go_frame)
  refine seq_done ?_
  clear KP3
  go_upto_region 5 with fail
  refine qgR (R := Ot (Rp dg r m ir)) (Ot.refl _) (fun _ _ _ => Ot.trans) [0, 1, 2, 3, 4, 5, 6, 7, 8, 9, 10, 11, 12, 13, 14, 15, 16, 17] [15, 16] ?_
  repeat ((first | refine qR _ (fun w' e => KP5.out w' e) ?_ | refine qS ?_); go_frame)
  generalize w.drew.drew = V at *
  refine qD fun K hK => ?_
  go_simp
  refine SEC5.out.mono ?_
  rintro e w3 ⟨rfl, x3⟩
  refine hK.out _ _ (Ot.of_ext x3) ?_
  clear hK K
  try go_frame
  have WR3 := Lib.hid (WR.out w3 (X5.out.trans x3))
  have x03 := Lib.hid (X5.out.trans x3)
  clear SEC5 WR KP5 x3 X5
  repeat ((first | refine qR0 ?_ | refine qS ?_); go_frame)
  refine qD fun K hK => ?_
  go_simp
  refine WR3.out.mono ?_
  rintro e w4 ⟨rfl, ⟨X4, rd4⟩, t4⟩
  refine hK.out _ _ t4 ?_
  clear hK K
  try go_frame
  have T4 : Hid (Ot (Rp dg r m ir) w w4) := (Ot.of_ext x03.out).trans t4
  replace rd4 := Lib.hid rd4
  clear WR3 t4 x03
  repeat ((first | refine qR0 ?_ | refine qS ?_); go_frame)
  refine seq_done ?_
  cases fa with
  | true =>
    have F : Hid (jE = 13 ∧ jD = d1 ∧ jL = L) := by
      have e1 : jE = 13 := by rw [FE.out]; rfl
      refine ⟨e1, ?_, ?_⟩
      · rw [FD.out, WF.out rfl]; rfl
      · rw [FL.out, e1]; rfl
    clear FE FD FL WF
    go_wp2_with fail
    go_ret
    refine ⟨by rw [F.out.1]; rfl, ⟨X4, by rw [F.out.2.1]; exact rd4.out⟩, D, c, ?_⟩
    rw [F.out.2.2]
    exact ⟨hJT.out _ T4.out, OP.out _ T4.out, .inl rfl⟩
  | false =>
    clear WF
    have c0 := (hJT.out _ T4.out).1.cell (j := 0) rfl
    have SY := Lib.hid (rsync_calls rd4.out)
    obtain ⟨fb, hfb⟩ : ∃ q, q = d1.fails := ⟨_, rfl⟩
    rw [← hfb] at SY FE FD
    clear hfb rd4
    go_wp2_with fail
    refine SY.out.mono ?_
    rintro e w5 ⟨rfl, rd5, t5⟩
    have T5 : Hid (Ot (Rp dg r m ir) w w5) := T4.out.trans t5
    replace rd5 := Lib.hid rd5
    clear SY c0 T4 t5
    cases fb with
    | true =>
      have F : Hid (jE = 13 ∧ jD = d1.burn ∧ jL = L) := by
        have e1 : jE = 13 := by rw [FE.out]; rfl
        refine ⟨e1, ?_, ?_⟩
        · rw [FD.out]; rfl
        · rw [FL.out, e1]; rfl
      clear FE FD FL
      go_wp2_with fail
      go_ret
      refine ⟨by rw [F.out.1]; rfl, ⟨X4, by rw [F.out.2.1]; exact rd5.out⟩, D, c, ?_⟩
      rw [F.out.2.2]
      exact ⟨hJT.out _ T5.out, OP.out _ T5.out, .inl rfl⟩
    | false =>
      have F : Hid (jE = 0 ∧ jD = d1.burn.flush ∧ jL = L ++ [xs]) := by
        have e1 : jE = 0 := by rw [FE.out]; rfl
        refine ⟨e1, ?_, ?_⟩
        · rw [FD.out]; rfl
        · rw [FL.out, e1]; rfl
      clear FE FD FL
      obtain ⟨jg, jo, jB⟩ := hJT.out _ T5.out
      have bx := hM.out _ T5.out
      have sz5 := T5.out.size
      have gB : B ≤ w5.heap.size := Nat.le_of_lt (Nat.lt_of_le_of_lt jB jg.lt)
      have x1 : Ext w5 (w5.alloc (.cells #[] 37)) := (Ext.refl w5).alloc _
      have e1 : OwnS B R (w5.alloc (.cells #[] 37)) (some ⟨w5.heap.size, 0, none⟩) 0 0 [] := OwnS.empty w5 gB
      obtain ⟨vs, v1, v2, v3⟩ := jo.src
      have srcs : 0 < L.length → ∃ ad, D = some ad ∧ ∀ j u, vs[j]? = some u → (w5.alloc (.cells #[] 37)).cell? (ad.add j) = some u := fun h0 => by
        obtain ⟨ad, e, hc⟩ := v2 h0
        exact ⟨ad, e, fun j u hu => (x1.cell (cell_lt (hc j u hu))).trans (hc j u hu)⟩
      have elems : ∀ j, j < L.length → ∃ A' n' c', vs[j]? = some (.slice A' n' c') ∧ Bs (w5.alloc (.cells #[] 37)) A' n' c' (L.getD j []) ∧ (0 < n' → ∀ a, A' = some a → some a.block ≠ Value.ownBlock (.slice (some ⟨w5.heap.size, 0, none⟩) 0 0) ∧ ¬ R a.block) := fun j hj => by
        obtain ⟨A', n', c', q1, q2, q3⟩ := v3 j hj
        refine ⟨A', n', c', q1, q2.ext x1, fun h0 a ha => ⟨fun q => ?_, q3 h0 a ha⟩⟩
        obtain ⟨b, off, e, hb, _⟩ := q2.pos h0
        rw [e] at ha
        injection ha with ha
        subst ha
        have := Option.some.inj q
        simp only at this
        omega
      have szV : B ≤ (w5.alloc (.cells #[] 37)).heap.size := Nat.le_trans gB x1.size
      have c0 := (jg.ext x1).cell (j := 1) rfl
      have Ll : L.length ≤ 900000 := by omega
      replace hM := Lib.hid bx
      replace x1 := Lib.hid x1
      replace e1 := Lib.hid e1
      replace srcs := Lib.hid srcs
      replace elems := Lib.hid elems
      replace v1 := Lib.hid v1
      replace jg := Lib.hid jg
      replace sz5 := Lib.hid sz5
      clear hJT OP v2 v3 bx jo
      go_wp2_with (first
        | (refine wpList_plain rfl fun K hK => ?_; refine wp_append_gs (B := B) rfl rfl rfl e1.out v1.out rfl srcs.out elems.out (by omega) szV ?_; intro D6 c6 w6 o6 g6 q6; rw [Nat.zero_add, List.nil_append] at o6; rw [Nat.zero_add] at q6; rw [Nat.zero_add]; have x6 : Ext w5 w6 := Ot.ext (p := fun i => i = w5.heap.size) x1.out (Ot.of_grown g6 rfl) (fun i q => Nat.le_of_eq q.symm); replace o6 := Lib.hid o6; replace q6 := Lib.hid q6; have xa6 : Hid (Ext w6 (w6.alloc (.cells #[] 5))) := (Ext.refl w6).alloc _; have b7 := Lib.hid (hM.out.ext (x6.trans xa6.out)); replace x6 := Lib.hid x6; have oe := Lib.hid (Own.empty w6 w6.heap.size (Nat.le_refl _)); have sz7 : w6.heap.size ≤ (w6.alloc (.cells #[] 5)).heap.size := xa6.out.size; refine hK _ _ ?_)
        | (at_builtin; refine wpList_append_bs rfl (B := w6.heap.size) (s := .tmp 56) (x := .tmp 57) rfl rfl rfl oe.out b7.out (by omega) sz7 ?_; intro D8 cc8 w8 o8 hg8 hbl8; rw [Nat.zero_add, List.nil_append] at o8; rw [Nat.zero_add]; replace o8 := Lib.hid o8; have x08 := Lib.hid (xa6.out.trans' hbl8); have xa9 : Ext w8 (w8.alloc (.cells #[.slice D8 n cc8] 37)) := (Ext.refl w8).alloc _; have o69 := Lib.hid (o6.out.ext (x08.out.trans xa9)); have b9 := Lib.hid (o8.out.bs.ext xa9); have hc9 := Lib.hid ((Cb.new w8 37 [.slice D8 n cc8]).cell (j := 0) rfl); have far9 := Lib.hid (far_of_newS o8.out o6.out (fun i q => Nat.lt_of_lt_of_le (Nat.lt_of_lt_of_le (hRw i q) sz5.out) x6.out.size)); have x9 := Lib.hid (x6.out.trans (x08.out.trans xa9)); have sz9 : B ≤ (w8.alloc (.cells #[.slice D8 n cc8] 37)).heap.size := Nat.le_trans gB x9.out.size; clear xa9)
        | (at_builtin; refine wpList_plain rfl fun K hK => ?_; refine wp_append_s1 (B := B) (R := R) (b := w8.heap.size) (D := D6) (n := L.length) (c := c6) (A' := D8) (n' := n) (c' := cc8) (l := L) (xs := xs) (s := .tmp 55) (x := .tmp 59) rfl rfl rfl o69.out hc9.out b9.out far9.out Ll sz9 ?_; intro D10 c10 w10 o10 g10 q10; have lo6 : ∀ i, Value.ownBlock (.slice D6 L.length c6) = some i → w5.heap.size ≤ i := fun i q => q6.out.elim (fun z => Nat.le_of_eq (Option.some.inj (z.symm.trans q))) (fun z => Nat.le_trans x1.out.size (Nat.le_of_eq (Option.some.inj (z.symm.trans q)))); have x10 : Ext w5 w10 := Ot.ext (p := fun i => Value.ownBlock (.slice D6 L.length c6) = some i) x9.out ⟨g10.os, g10.tape, g10.output, g10.size, fun i hi hn => g10.block i hi (fun q => hn q.symm)⟩ lo6; have jg10 := jg.out.ext x10; have cg10 := jg10.cell (j := 1) rfl; have fg10 := jg10.frozen 1; have ow10 : Hid (∃ i, Value.ownBlock (.slice D10 (L.length + 1) c10) = some i ∧ w5.heap.size ≤ i) := (q10.elim (fun z => q6.out.elim (fun y => ⟨_, z.trans y, Nat.le_refl _⟩) (fun y => ⟨_, z.trans y, x1.out.size⟩)) (fun z => ⟨_, z, x9.out.size⟩)); replace jg10 := Lib.hid jg10; replace x10 := Lib.hid x10; replace o10 := Lib.hid o10; refine hK _ _ ?_))
      clear cg10 fg10
      have gr1 := gr_cell22 w10 g 1 (.slice D10 (L.length + 1) c10)
      have LL : (L ++ [xs]).length = L.length + 1 := by simp
      go_ret
      refine ⟨by rw [F.out.1]; rfl, ⟨X4, ?_⟩, D10, c10, ?_⟩
      · rw [F.out.2.1]
        have rd : RD w10 dg r m ir d1.burn.flush X4 := rd5.out.ext x10.out
        exact rd.stay (gr1.block _ rd.cb.lt (fun q => hgp (.inl (Option.some.inj q).symm))) (gr1.block _ rd.sr.lt (fun q => hgp (.inr (.inl (Option.some.inj q).symm)))) (gr1.block _ rd.nr.lt (fun q => hgp (.inr (.inr (.inl (Option.some.inj q).symm))))) (gr1.block _ rd.ir.lt (fun q => hgp (.inr (.inr (.inr (Option.some.inj q).symm)))))
      · rw [F.out.2.2]
        refine ⟨⟨?_, ?_, jB⟩, (T5.out.mono fun i _ q => .inl q).trans ((Ot.of_ext x10.out).trans (Ot.of_grown gr1 (.inr rfl))), .inr ?_⟩
        · rw [LL]; exact jg10.out.setCell
        · rw [LL]; exact o10.out.turn jg10.out (by decide) (by rintro v hv i rfl; simp at hv) gr1
        · rw [LL]
          obtain ⟨i, q1, q2⟩ := ow10.out
          exact ⟨i, q1, Nat.le_trans T5.out.size q2⟩
end Go.Proofs.Yteaoacinhdjkeaa
