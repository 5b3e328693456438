import Derived.Test.YteaoacinhdjkeaaPkB
/-
  The law StrikesApart.
-/
namespace Go.Proofs.Yteaoacinhdjkeaa
open Go.ChangeShapes Go.WideShapes Go.ChangeAt Go.RowKit Go.Deep Go.Maps
set_option maxRecDepth 100000

/-- Whose a strike is, as the law's map holds it. -/
def whoE (s : Sk) : Value × Value := (s.key, .int .i64 (s.acc : Int))
theorem who_key {K : List Sk} {id : Int} {v : Value} : ((.int .i64 id, v) : Value × Value) ∈ K.map whoE ↔ ∃ s ∈ K, (s.id : Int) = id ∧ v = .int .i64 (s.acc : Int) := by
  rw [List.mem_map]
  constructor
  · rintro ⟨s, hs, he⟩
    unfold whoE Sk.key at he
    injection he with e1 e2
    injection e1 with _ e1
    exact ⟨s, hs, e1, e2.symm⟩
  · rintro ⟨s, hs, e1, e2⟩
    exact ⟨s, hs, by unfold whoE Sk.key; rw [e1, e2]⟩
theorem int_zero23 (w : World) : (zeroValue 3).run Try.prog w = .ok (.int .i64 0) w := by kernel_rfl
theorem who_look {w : World} {b : Nat} {K : List Sk} (h : Mp Try.prog 3 w b (K.map whoE)) (ok : OkS K) {id : Int} (hi : -9223372036854775808 ≤ id ∧ id ≤ 9223372036854775807) :
    (Instr.lookup 78 (.map (some b)) (.int .i64 id) true).run Try.prog w = .ok (.tuple #[.int .i64 (ofA (findS K id)), .bool (findS K id).isSome]) w ∧ (Instr.lookup 78 (.map (some b)) (.int .i64 id) false).run Try.prog w = .ok (.int .i64 (ofA (findS K id))) w := by
  rcases h.look int_law Try.underlying78 (int_zero23 w) (int_key Try.underlying3 hi) with ⟨v, h1, h2, h3⟩ | ⟨h1, h2, h3⟩
  · obtain ⟨s, hs, e1, e2⟩ := who_key.1 h1
    have := findS_mem ok hs
    rw [e1] at this
    rw [h2, h3, this, e2]
    exact ⟨rfl, rfl⟩
  · have : findS K id = none := find_no fun s hs e => h1 _ (who_key.2 ⟨s, hs, e, rfl⟩) rfl
    rw [h2, h3, this]
    exact ⟨rfl, rfl⟩
theorem who_add {w : World} {b : Nat} {K : List Sk} (h : Mp Try.prog 3 w b (K.map whoE)) (ok : OkS K) {i a t : Nat} (hi : i ≤ 1000000) (hn : findS K (i : Int) = none) :
    ∃ w', (Instr.mapUpdate 78 (.map (some b)) (.int .i64 (i : Int)) (.int .i64 (a : Int))).run Try.prog w = .ok () w' ∧ Mp Try.prog 3 w' b ((K ++ [(⟨i, a, t, false⟩ : Sk)]).map whoE) ∧ w.grownBy w' (some b) := by
  obtain ⟨w1, r1, r2, r3, _⟩ := h.add int_law Try.underlying78 (by have := ok.len; rw [List.length_map]; unfold maxLen; omega) (int_key Try.underlying3 (i := (i : Int)) (by omega)) (fun p hp e => by
    obtain ⟨k, v⟩ := p
    have e : k = .int .i64 (i : Int) := e
    subst e
    obtain ⟨s, hs, e1, _⟩ := who_key.1 hp
    exact findS_none hn s hs e1) (.int .i64 (a : Int))
  exact ⟨w1, r1, by rw [List.map_append]; exact r2, r3⟩
/-- What the law's list is. -/
def Ap (K : List Sk) : Prop := ∀ s ∈ K, s.acc < 4 ∧ s.id ≤ 1000 ∧ s.time ≤ 100 ∧ s.rev = false
theorem pS_100 {s : Sk} (h : s.acc < 4 ∧ s.id ≤ 1000 ∧ s.time ≤ 100 ∧ s.rev = false) (a : Nat) : pS (a : Int) 100 s = decide (s.acc = a) := by
  unfold pS
  have hw : IntKind.i64.wrap ((100 : Int) - 100) = 0 := by decide +kernel
  rw [hw, h.2.2.2, decide_eq_true (show (s.time : Int) ≤ 100 by omega), decide_eq_true (show (0 : Int) ≤ (s.time : Int) by omega)]
  simp
  omega
theorem cnt_sum : ∀ {K : List Sk}, Ap K → cntS K 0 100 + cntS K 1 100 + cntS K 2 100 + cntS K 3 100 = K.length ∧ cntS K 4 100 = 0 ∧ cntS K 5 100 = 0 ∧ cntS K 6 100 = 0 ∧ cntS K 7 100 = 0
  | [], _ => ⟨rfl, rfl, rfl, rfl, rfl⟩
  | x :: K, h => by
    obtain ⟨e1, e2, e3, e4, e5⟩ := cnt_sum (K := K) fun s hs => h s (List.mem_cons_of_mem _ hs)
    have hx := h x (List.mem_cons_self ..)
    have cc : ∀ a : Nat, cntS (x :: K) (a : Int) 100 = (if x.acc = a then 1 else 0) + cntS K (a : Int) 100 := fun a => by
      unfold cntS
      rw [List.filter_cons, pS_100 hx]
      by_cases q : x.acc = a
      · rw [decide_eq_true q, if_pos rfl, if_pos q, List.length_cons]; omega
      · rw [decide_eq_false q, if_neg q]; simp
    have c0 := cc 0
    have c1 := cc 1
    have c2 := cc 2
    have c3 := cc 3
    have c4 := cc 4
    have c5 := cc 5
    have c6 := cc 6
    have c7 := cc 7
    simp only [Int.natCast_zero, Int.natCast_one, Int.cast_ofNat_Int] at c0 c1 c2 c3 c4 c5 c6 c7
    have := hx.1
    rw [List.length_cons]
    refine ⟨?_, ?_, ?_, ?_, ?_⟩
    · have h4 : x.acc = 0 ∨ x.acc = 1 ∨ x.acc = 2 ∨ x.acc = 3 := by omega
      rcases h4 with q | q | q | q <;> simp only [q] at c0 c1 c2 c3 <;> simp at c0 c1 c2 c3 <;> omega
    · rw [if_neg (by omega)] at c4; omega
    · rw [if_neg (by omega)] at c5; omega
    · rw [if_neg (by omega)] at c6; omega
    · rw [if_neg (by omega)] at c7; omega
theorem find_mono {K : List Sk} {x : Int} (y : Sk) (h : (findS K x).isSome = true) : (findS (K ++ [y]) x).isSome = true := by
  unfold findS at h ⊢
  rw [List.find?_append]
  cases e : K.find? fun s => decide ((s.id : Int) = x) with
  | none => rw [e] at h; cases h
  | some s => rfl
/-- The law's numbers, so far. -/
def manyC (K : List Sk) (k : Nat) : List Value := (List.range k).map (fun (j : Nat) => Value.int .i64 (cntS K (j : Int) 100 : Int)) ++ List.replicate (8 - k) (.int .i64 0)
theorem manyC_len (K : List Sk) {k : Nat} (h : k ≤ 8) : (manyC K k).length = 8 := by simp [manyC]; omega
theorem manyC_set (K : List Sk) {k : Nat} (h : k < 8) : (manyC K k).set k (.int .i64 (cntS K (k : Int) 100 : Int)) = manyC K (k + 1) := by
  unfold manyC
  have e : 8 - k = (8 - (k + 1)) + 1 := by omega
  rw [List.set_append_right _ _ (by simp), List.length_map, List.length_range, Nat.sub_self, e, List.replicate_succ, List.set_cons_zero, List.range_succ, List.map_append, List.append_assoc]
  rfl
theorem manyC_at (K : List Sk) {k : Nat} (h : k < 8) : ∃ v, (manyC K k)[k]? = some v := ⟨_, List.getElem?_eq_getElem (by rw [manyC_len K (by omega)]; exact h)⟩
theorem many_alloc (w : World) : (zeroValue 80).run Try.prog w = .ok (.agg (List.replicate 8 (Value.int .i64 0)).toArray) w := by kernel_rfl
theorem many_built : Try.prog.built 80 [] = some (List.replicate 8 (Value.int .i64 0)).toArray := by kernel_rfl
theorem manyC_0 (K : List Sk) : manyC K 0 = List.replicate 8 (.int .i64 0) := rfl
theorem manyC_8 (K : List Sk) : ∀ j, j < 8 → (manyC K 8)[j]? = some (.int .i64 (cntS K (j : Int) 100 : Int)) := fun j hj => by
  unfold manyC
  rw [List.getElem?_append_left (by simp; exact hj), List.getElem?_map, List.getElem?_range hj]
  rfl
theorem and3 : ∀ i : Fin 41, bits BinOp.and IntKind.i64 (i.val : Int) 3 = ((i.val % 4 : Nat) : Int) := by decide +kernel
set_option maxHeartbeats 16000000 in
theorem apart23_calls {w : World} {A A2 : Option Addr} {n c n2 c2 : Nat} {zs ys : List Int} (ht : Is w A n c zs) (hc : Is w A2 n2 c2 ys) :
    Calls Try.prog 9 #[.slice A n c, .slice A2 n2 c2] w fun e w' => e = .returned (.bool true) ∧ Ext w w' := by
  have AW := Lib.hid (awake23_calls (w := w))
  have hn1 := ht.le
  have hn2 := ht.cap
  have hn3 := hc.le
  have hn4 := hc.cap
  replace ht := Lib.hid ht
  replace hc := Lib.hid hc
  have hmm := @run_makeMap Try.prog
  go_enter Try.func9, Try.ntmps9
  go_wp2_with fail
  refine AW.out.mono ?_
  rintro e w1 ⟨rfl, x1⟩
  have ND := Lib.hid (dnew_ok (w := w1) (n := 64) (by omega) (by omega))
  replace x1 := Lib.hid x1
  clear AW
  go_wp2_with fail
  refine ND.out.mono ?_
  rintro e w2 ⟨dg, r, mb, rfl, q1, q2, q3, dk2, x2⟩
  have s1 := x1.out.size
  have BE := Lib.hid (HS.new (w := w) dk2 (x1.out.trans x2) (by omega) (by omega) (by omega) (by omega) (by omega))
  clear ND dk2 x1 x2 q1 q2 q3 s1
  go_wp2_with fail
  refine BE.out.mono ?_
  rintro e w3 ⟨g, lg, rfl, h3⟩
  have F3 := Lib.hid h3.ex
  have B3 : Hid (HF (fun i => i = w3.heap.size) w (w3.alloc (.map #[] 0)) lg [] 64 0 ∧ Mp Try.prog 3 (w3.alloc (.map #[] 0)) w3.heap.size (([] : List Sk).map whoE)) := ⟨h3.beside ((Ext.refl w3).alloc _) (fun i q => by subst q; exact ⟨Nat.le_refl _, by simp⟩), Mp.made w3 Try.prog 3⟩
  clear BE h3
  by_cases a0 : 30 < n
  · have u1 : decide ((30 : Int) < (n : Int)) = true := decide_eq_true (by omega)
    clear B3
    go_wp2_with fail
    go_ret
    exact ⟨rfl, F3.out⟩
  have u1 : decide ((30 : Int) < (n : Int)) = false := decide_eq_false (by omega)
  by_cases a1 : n2 < n
  · have u2 : decide ((n2 : Int) < (n : Int)) = true := decide_eq_true (by omega)
    clear B3
    go_wp2_with fail
    go_ret
    exact ⟨rfl, F3.out⟩
  have u2 : decide ((n2 : Int) < (n : Int)) = false := decide_eq_false (by omega)
  have u3 : ¬ n2 < n := a1
  have hn5 : n ≤ 30 := by omega
  clear F3 a0 a1
  go_upto_region 8 with fail
  refine wp_gen (fun W => HF (fun i => i = w3.heap.size) w W lg [] 64 0 ∧ Mp Try.prog 3 W w3.heap.size (([] : List Sk).map whoE)) B3.out ?_
  clear B3
  generalize w3.heap.size = wb at *
  clear w3
  rintro w4 ⟨hf4, mp4⟩
  go_wp2_with fail
  go_loopw [11] (fun iv wr => ∃ (i q : Nat) (K : List Sk), i ≤ n ∧ iv = .int .i64 (i : Int) ∧ q ≤ i ∧ HF (fun i => i = wb) w wr lg K 64 q ∧ Mp Try.prog 3 wr wb (K.map whoE) ∧ Ap K ∧ ∀ j, j < i → (findS K (nat_at zs j)).isSome = true) (fun iv _ => n - (intOf iv).toNat)
  case atStart => exact ⟨0, 0, [], Nat.zero_le _, rfl, Nat.zero_le _, hf4, mp4, (fun s h => by cases h), fun j h => absurd h (Nat.not_lt_zero _)⟩
  case round =>
    clear hf4 mp4
    obtain ⟨i, q, K, hi, rfl, hq, hf, mp, ap, hv⟩ := hrel
    by_cases him : i < n
    · have l1 : decide ((i : Int) < (n : Int)) = true := decide_eq_true (by omega)
      obtain ⟨b, off, rfl, hb, hcell⟩ := ht.out.pos (by omega)
      obtain ⟨hci, hz1, hz2⟩ := hcell i him
      obtain ⟨b', off', rfl, hb', hcell'⟩ := hc.out.pos (by omega)
      obtain ⟨hci', hz1', hz2'⟩ := hcell' i (by omega)
      have i2 : (i : Int) < (n : Int) := by omega
      have i3 : (i : Int) < (n2 : Int) := by omega
      have ex := hf.hs.ex
      have F := Lib.hid ex
      obtain ⟨z, hz⟩ : ∃ q, q = nat_at zs i := ⟨_, rfl⟩
      obtain ⟨y, hy⟩ : ∃ q, q = nat_at ys i := ⟨_, rfl⟩
      rw [← hz] at hci hz1 hz2
      rw [← hy] at hci' hz1' hz2'
      clear hy
      have cc := (ex.cell (p := ⟨b, off + i, none⟩) hb).trans hci
      have cc' := (ex.cell (p := ⟨b', off' + i, none⟩) hb').trans hci'
      clear hcell hcell' ex
      replace hz := Lib.hid hz
      by_cases z0 : z < 0
      · have l2 : decide (z < 0) = true := decide_eq_true z0
        clear hf mp ap hv
        go_wp2_with fail
        go_ret
        exact ⟨rfl, F.out⟩
      have l2 : decide (z < 0) = false := decide_eq_false z0
      by_cases z9 : 1000 < z
      · have l3 : decide (1000 < z) = true := decide_eq_true z9
        clear hf mp ap hv
        go_wp2_with fail
        go_ret
        exact ⟨rfl, F.out⟩
      have l3 : decide (1000 < z) = false := decide_eq_false z9
      by_cases y0 : y < 0
      · have l4 : decide (y < 0) = true := decide_eq_true y0
        clear hf mp ap hv
        go_wp2_with fail
        go_ret
        exact ⟨rfl, F.out⟩
      have l4 : decide (y < 0) = false := decide_eq_false y0
      by_cases y9 : 100 < y
      · have l5 : decide (100 < y) = true := decide_eq_true y9
        clear hf mp ap hv
        go_wp2_with fail
        go_ret
        exact ⟨rfl, F.out⟩
      have l5 : decide (100 < y) = false := decide_eq_false y9
      clear F
      obtain ⟨id, rfl⟩ : ∃ y : Nat, z = (y : Int) := ⟨z.toNat, by omega⟩
      obtain ⟨t, rfl⟩ : ∃ q : Nat, y = (q : Int) := ⟨y.toNat, by omega⟩
      have hid : id ≤ 1000 := by omega
      have htt : t ≤ 100 := by omega
      have hi3 : bits BinOp.and IntKind.i64 (i : Int) 3 = ((i % 4 : Nat) : Int) := and3 ⟨i, by omega⟩
      have i1 : IntKind.i64.wrap ((i : Int) + 1) = ((i + 1 : Nat) : Int) := (IntWalk.i64_in _ (by omega)).trans (by omega)
      have LKw := (who_look mp hf.hs.ok (id := (id : Int)) (by omega)).1
      obtain ⟨a, ha⟩ : ∃ a, a = i % 4 := ⟨_, rfl⟩
      have ha4 : a < 4 := by omega
      rw [← ha] at hi3
      replace ha := Lib.hid ha
      clear z0 z9 y0 y9 hz1 hz2 hz1' hz2'
      have hbw : Hid (∀ s, Ext w s → s.cell? ⟨b, off + i, none⟩ = some (.int .i64 (id : Int)) ∧ s.cell? ⟨b', off' + i, none⟩ = some (.int .i64 (t : Int))) := fun s x => ⟨(x.cell (p := ⟨b, off + i, none⟩) hb).trans hci, (x.cell (p := ⟨b', off' + i, none⟩) hb').trans hci'⟩
      obtain ⟨oo, hoo⟩ : ∃ q, q = findS K (id : Int) := ⟨_, rfl⟩
      rw [← hoo] at LKw
      replace hf := Lib.hid hf
      replace mp := Lib.hid mp
      replace ap := Lib.hid ap
      replace hv := Lib.hid hv
      replace hoo := Lib.hid hoo
      go_upto_region 13 with (refine wpList_lookup_mp rfl _ _ rfl rfl rfl LKw ?_; go_frame)
      have T13 : Hid (∀ s, Ot (fun i => w.heap.size ≤ i ∧ ¬ i = wb) wr.drew s → s.cell? ⟨b, off + i, none⟩ = some (.int .i64 (id : Int)) ∧ s.cell? ⟨b', off' + i, none⟩ = some (.int .i64 (t : Int))) := fun s k => hbw.out s (Ot.ext hf.out.hs.ex.drew k fun i q => q.1)
      have hf0 := Lib.hid (hf.out.ext (Ext.refl wr).drew)
      have mp0 := Lib.hid (mp.out.ext (Ext.refl wr).drew)
      clear LKw cc cc' hf mp
      cases oo with
      | none =>
        have AD := Lib.hid (hf0.out.add (by omega) (by omega) (a := a) (i := id) (t := t) (by omega) (by omega) (by omega) hoo.out.symm)
        refine qgR (R := Ot (fun i => w.heap.size ≤ i ∧ ¬ i = wb)) (Ot.refl _) (fun _ _ _ => Ot.trans) [0, 1, 2, 3, 4, 5, 6, 7, 8, 9, 10, 11, 12] [11] ?_
        generalize wr.drew = V at *
        repeat ((first | refine qR _ (fun w' e => (And.intro (T13.out w' e).1 (T13.out w' e).2)) ?_ | refine qS ?_); go_frame)
        refine qD fun K_ hK => ?_
        go_simp
        refine AD.out.mono ?_
        rintro e w5 ⟨rfl, hf5, k5⟩
        refine hK.out _ _ k5 ?_
        clear hK K_
        try go_frame
        have mp5 := Lib.hid (mp0.out.stay (k5.same mp0.out.lt fun q => q.2 rfl))
        clear AD T13 hf0 mp0 k5
        replace hf5 := Lib.hid hf5
        repeat ((first | refine qR0 ?_ | refine qS ?_); go_frame)
        refine seq_done ?_
        obtain ⟨w6, d1, d2, d3⟩ := who_add mp5.out (by have := hf5.out.hs.ok; exact ⟨this.ap.sublist (List.sublist_append_left _ _), fun s hs => this.ok s (List.mem_append_left _ hs)⟩) (i := id) (a := a) (t := t) (by omega) hoo.out.symm
        have cc5 := (hbw.out w5 hf5.out.hs.ex).1
        have hf6 := Lib.hid (hf5.out.turn (Ot.of_grown d3 rfl) (fun i q j x => by
          subst q
          obtain ⟨es, cl, q2⟩ := mp5.out.obj
          exact no_cell q2 (fun _ _ _ q => by cases q) j _))
        have AP : Hid (Ap (K ++ [⟨id, a, t, false⟩])) := fun s hs => by
          rcases List.mem_append.1 hs with hs | hs
          · exact ap.out s hs
          · rw [List.mem_singleton.1 hs]; exact ⟨ha4, hid, htt, rfl⟩
        have HV : Hid (∀ j, j < i + 1 → (findS (K ++ [⟨id, a, t, false⟩]) (nat_at zs j)).isSome = true) := fun j hj => by
          by_cases q : j < i
          · exact find_mono _ (hv.out j q)
          · obtain rfl : j = i := by omega
            rw [← hz.out, find_snoc (fun s hs e => by
              have := findS_none hoo.out.symm s hs
              omega)]
            rfl
        replace d2 := Lib.hid d2
        clear d3 hf5 mp5 hv ap
        go_wp2_with (refine wpList_of_wp rfl fun K_ hK => ?_; refine wp_mapUpdate rfl rfl rfl rfl d1 ?_; refine hK _ _ ?_; go_frame)
        go_roundw
        case rel => exact ⟨i + 1, q + 1, _, by omega, by go_num, by omega, hf6.out, d2.out, AP.out, HV.out⟩
        case measure => simp [intOf]; omega
      | some s =>
        have AD := Lib.hid (hf0.out.twice (a := a) (i := id) (t := t) (by omega) (by omega) (by omega) hoo.out.symm)
        refine qgR (R := Ot (fun i => w.heap.size ≤ i ∧ ¬ i = wb)) (Ot.refl _) (fun _ _ _ => Ot.trans) [0, 1, 2, 3, 4, 5, 6, 7, 8, 9, 10, 11, 12] [11] ?_
        generalize wr.drew = V at *
        repeat ((first | refine qR _ (fun w' e => (And.intro (T13.out w' e).1 (T13.out w' e).2)) ?_ | refine qS ?_); go_frame)
        refine qD fun K_ hK => ?_
        go_simp
        refine AD.out.mono ?_
        rintro e w5 ⟨rfl, hf5, k5⟩
        refine hK.out _ _ k5 ?_
        clear hK K_
        try go_frame
        have mp5 := Lib.hid (mp0.out.stay (k5.same mp0.out.lt fun q => q.2 rfl))
        clear AD T13 hf0 mp0 k5
        replace hf5 := Lib.hid hf5
        repeat ((first | refine qR0 ?_ | refine qS ?_); go_frame)
        refine seq_done ?_
        have HV : Hid (∀ j, j < i + 1 → (findS K (nat_at zs j)).isSome = true) := fun j hj => by
          by_cases q : j < i
          · exact hv.out j q
          · obtain rfl : j = i := by omega
            rw [← hz.out, ← hoo.out]
            rfl
        go_wp2_with fail
        go_roundw
        case rel => exact ⟨i + 1, q, K, by omega, by go_num, by omega, hf5.out, mp5.out, ap.out, HV.out⟩
        case measure => simp [intOf]; omega
    · obtain rfl : i = n := by omega
      have l1 : decide ((i : Int) < (i : Int)) = false := decide_eq_false (by omega)
      have hal := many_alloc
      have S_Z : (List.replicate 8 (Value.int .i64 0)).toArray.size = 8 := rfl
      have O_Z : (List.replicate 8 (Value.int .i64 0)).toArray.all (·.oneCell') = true := one_cells (fun v hv => by rw [List.eq_of_mem_replicate hv]; rfl)
      have HB := Lib.hid many_built
      obtain ⟨ZZ, hZZ⟩ : ∃ q, q = List.replicate 8 (Value.int .i64 0) := ⟨_, rfl⟩
      rw [← hZZ] at hal S_Z O_Z HB
      have K18 : Hid (HF (fun i => i = wb ∨ i = wr.heap.size) w ((wr.alloc (.cells ZZ.toArray 80)).setRow wr.heap.size ZZ.toArray) lg K 64 q ∧ Mp Try.prog 3 ((wr.alloc (.cells ZZ.toArray 80)).setRow wr.heap.size ZZ.toArray) wb (K.map whoE) ∧ Cb ((wr.alloc (.cells ZZ.toArray 80)).setRow wr.heap.size ZZ.toArray) wr.heap.size 80 (manyC K 0)) := by
        refine ⟨hf.more (Ext.newRow _ _ _) (Nat.le_refl _) (by simp [World.setRow]), mp.ext (Ext.newRow _ _ _), ?_⟩
        rw [manyC_0, ← hZZ]
        exact (Cb.new wr _ ZZ).set
      replace hZZ := Lib.hid hZZ
      clear hf mp
      go_upto_region 19 with (first
        | (refine wpList_build_as rfl _ _ rfl ZZ.toArray (by simp only [List.map_toArray, List.map_cons, List.map_nil]; exact HB.out) ?_; go_frame)
        | (refine wpList_store_row rfl 80 _ _ rfl wr.heap.size ZZ.toArray rfl rfl 80 ZZ.toArray (heap_alloc_new _ _) (by rw [S_Z]; rfl) (by rw [S_Z]) O_Z ?_; simp only [Act.put]))
      refine wp_gen (fun W => HF (fun i => i = wb ∨ i = wr.heap.size) w W lg K 64 q ∧ Mp Try.prog 3 W wb (K.map whoE) ∧ Cb W wr.heap.size 80 (manyC K 0)) K18.out ?_
      clear K18
      generalize wr.heap.size = g15 at *
      clear wr
      rintro w5 ⟨hf5, mp5, k5⟩
      go_wp2_with fail
      go_loopw [16] (fun iv wr => ∃ j : Nat, j ≤ i ∧ iv = .int .i64 (j : Int) ∧ HF (fun i => i = wb ∨ i = g15) w wr lg K 64 q ∧ Mp Try.prog 3 wr wb (K.map whoE) ∧ Cb wr g15 80 (manyC K 0)) (fun iv _ => i - (intOf iv).toNat)
      case atStart => exact ⟨0, Nat.zero_le _, rfl, hf5, mp5, k5⟩
      case round =>
        clear hf5 mp5 k5
        obtain ⟨j, hj, rfl, hf, mp, k15⟩ := hrel
        by_cases hji : j < i
        · have l2 : decide ((j : Int) < (i : Int)) = true := decide_eq_true (by omega)
          obtain ⟨b, off, rfl, hb, hcell⟩ := ht.out.pos (by omega)
          obtain ⟨hci, hz1, hz2⟩ := hcell j hji
          have cc := (hf.hs.ex.cell (p := ⟨b, off + j, none⟩) hb).trans hci
          have j1 : IntKind.i64.wrap ((j : Int) + 1) = ((j + 1 : Nat) : Int) := (IntWalk.i64_in _ (by omega)).trans (by omega)
          have j2 : (j : Int) < (i : Int) := by omega
          obtain ⟨sk, hsk⟩ := Option.isSome_iff_exists.1 (hv j hji)
          have hrev := (ap sk (findS_some hsk).1).2.2.2
          obtain ⟨g, lb, l⟩ := hf.hs.led
          have OF := sof_calls l (id := nat_at zs j) ⟨hz1, hz2⟩
          have LW := fun s (x : Ext wr s) => (who_look (mp.ext x) hf.hs.ok (id := nat_at zs j) ⟨hz1, hz2⟩).2
          rw [hsk] at OF LW
          rw [show ofR (some sk) = false from hrev] at OF
          have hbw : Hid (∀ s, Ext wr s → s.cell? ⟨b, off + j, none⟩ = some (.int .i64 (nat_at zs j))) := fun s x => ((hf.hs.ex.trans x).cell (p := ⟨b, off + j, none⟩) hb).trans hci
          replace OF := Lib.hid OF
          replace LW := Lib.hid LW
          replace hf := Lib.hid hf
          replace mp := Lib.hid mp
          replace k15 := Lib.hid k15
          generalize nat_at zs j = z at *
          generalize ofA (some sk) = oa at *
          clear l hcell hci hz1 hz2 hsk hrev
          go_wp2_with fail
          refine OF.out.mono ?_
          rintro e w6 ⟨rfl, x6⟩
          have LW6 := LW.out w6 x6
          have cc6 := hbw.out w6 x6
          have F6 : Hid (HF (fun i => i = wb ∨ i = g15) w w6 lg K 64 q ∧ Mp Try.prog 3 w6 wb (K.map whoE) ∧ Cb w6 g15 80 (manyC K 0)) := ⟨hf.out.ext x6, mp.out.ext x6, k15.out.ext x6⟩
          clear OF LW hbw hf mp k15 x6 cc
          go_wp2_with (refine BigFrame.wpList_want rfl fun K_ hK => ?_; refine wp_exec22 (exec_lookup rfl rfl rfl LW6) ?_; refine hK _ _ ?_; go_frame)
          go_roundw
          case rel => exact ⟨j + 1, by omega, by go_num, F6.out⟩
          case measure => simp [intOf]; omega
        · obtain rfl : j = i := by omega
          have l2 : decide ((j : Int) < (j : Int)) = false := decide_eq_false (by omega)
          go_wp2_with fail
          go_loopw [20] (fun iv wr => ∃ k : Nat, k ≤ 8 ∧ iv = .int .i64 (k : Int) ∧ HF (fun i => i = wb ∨ i = g15) w wr lg K 64 q ∧ Mp Try.prog 3 wr wb (K.map whoE) ∧ Cb wr g15 80 (manyC K k)) (fun iv _ => 8 - (intOf iv).toNat)
          case atStart => exact ⟨0, Nat.zero_le _, rfl, hf, mp, k15⟩
          case round =>
            clear hf mp k15
            obtain ⟨k, hk, rfl, hf, mp, k15⟩ := hrel
            by_cases hk8 : k < 8
            · have l3 : decide ((k : Int) < 8) = true := decide_eq_true (by omega)
              have lk : (k : Int) < 8 := by omega
              have k1 : IntKind.i64.wrap ((k : Int) + 1) = ((k + 1 : Nat) : Int) := (IntWalk.i64_in _ (by omega)).trans (by omega)
              obtain ⟨g, lb, l⟩ := hf.hs.led
              have CO := Lib.hid (scount_calls l (a := (k : Int)) (now := 100))
              have wne : wb ≠ g15 := fun e => by
                obtain ⟨es, cl, q2⟩ := mp.obj
                unfold Cb at k15
                rw [← e, q2] at k15
                cases k15
              replace hf := Lib.hid hf
              replace mp := Lib.hid mp
              replace k15 := Lib.hid k15
              clear l
              obtain ⟨cv, hcv⟩ : ∃ q, q = cntS K (k : Int) 100 := ⟨_, rfl⟩
              rw [← hcv] at CO
              have ST := manyC_set K hk8
              rw [← hcv] at ST
              replace ST := Lib.hid ST
              clear hcv
              go_wp2_with fail
              refine CO.out.mono ?_
              rintro e w6 ⟨rfl, x6⟩
              have k16 := k15.out.ext x6
              obtain ⟨v0, hv0⟩ := manyC_at K hk8
              have c15 := k16.cell hv0
              have f15 := k16.frozen k
              have gr := gr_cell22 w6 g15 k (.int .i64 (cv : Int))
              have F6 : Hid (HF (fun i => i = wb ∨ i = g15) w (w6.setCell ⟨g15, k, none⟩ (.int .i64 (cv : Int))) lg K 64 q ∧ Mp Try.prog 3 (w6.setCell ⟨g15, k, none⟩ (.int .i64 (cv : Int))) wb (K.map whoE) ∧ Cb (w6.setCell ⟨g15, k, none⟩ (.int .i64 (cv : Int))) g15 80 (manyC K (k + 1))) := by
                refine ⟨(hf.out.ext x6).turn (Ot.of_grown gr (.inr rfl)) (fun i q j x => ?_), (mp.out.ext x6).stay (gr.block _ (mp.out.ext x6).lt (fun q => wne (Option.some.inj q))), ?_⟩
                · rcases q with q | q
                  · subst q
                    obtain ⟨es, cl, q2⟩ := (mp.out.ext x6).obj
                    exact no_cell q2 (fun _ _ _ q => by cases q) j _
                  · subst q
                    intro z
                    have k16' := k16
                    unfold Cb at k16'
                    simp only [World.cell?, k16'] at z
                    have z : (manyC K k)[j]? = some (.int .u8 x) := by simpa using z
                    have := List.mem_of_getElem? z
                    unfold manyC at this
                    rcases List.mem_append.1 this with h | h
                    · obtain ⟨_, _, h⟩ := List.mem_map.1 h
                      injection h with h
                      cases h
                    · have := List.eq_of_mem_replicate h
                      injection this with h
                      cases h
                · rw [← ST.out]; exact k16.setCell
              clear CO hf mp k15 k16 hv0 gr
              go_wp2_with fail
              go_roundw
              case rel => exact ⟨k + 1, by omega, by go_num, F6.out⟩
              case measure => simp [intOf]; omega
            · obtain rfl : k = 8 := by omega
              have l3 : decide (((8 : Nat) : Int) < 8) = false := rfl
              have AT := manyC_8 K
              obtain ⟨e1, e4, e5, e6, e7⟩ := cnt_sum ap
              have hl := mp.len Try.underlying78 3
              rw [List.length_map, ← e1] at hl
              have LL := hf.hs.ok.len
              have c0 := k15.cell (AT 0 (by omega))
              have c1 := k15.cell (AT 1 (by omega))
              have c2 := k15.cell (AT 2 (by omega))
              have c3 := k15.cell (AT 3 (by omega))
              have c4 := k15.cell (AT 4 (by omega))
              have c5 := k15.cell (AT 5 (by omega))
              have c6 := k15.cell (AT 6 (by omega))
              have c7 := k15.cell (AT 7 (by omega))
              simp only [Int.natCast_zero, Int.natCast_one, Int.cast_ofNat_Int] at c0 c1 c2 c3 c4 c5 c6 c7
              rw [e4] at c4
              rw [e5] at c5
              rw [e6] at c6
              rw [e7] at c7
              have F := Lib.hid hf.hs.ex
              clear hf mp k15 AT e4 e5 e6 e7 ap hv
              generalize cntS K 0 100 = n0 at *
              generalize cntS K 1 100 = n1 at *
              generalize cntS K 2 100 = n2_ at *
              generalize cntS K 3 100 = n3 at *
              have b1 : IntKind.i64.wrap ((n0 : Int) + (n1 : Int)) = (n0 : Int) + (n1 : Int) := IntWalk.i64_in _ (by omega)
              have b2 : IntKind.i64.wrap ((n0 : Int) + (n1 : Int) + (n2_ : Int)) = (n0 : Int) + (n1 : Int) + (n2_ : Int) := IntWalk.i64_in _ (by omega)
              have b3 : IntKind.i64.wrap ((n0 : Int) + (n1 : Int) + (n2_ : Int) + (n3 : Int)) = (n0 : Int) + (n1 : Int) + (n2_ : Int) + (n3 : Int) := IntWalk.i64_in _ (by omega)
              rw [show ((n0 + n1 + n2_ + n3 : Nat) : Int) = (n0 : Int) + (n1 : Int) + (n2_ : Int) + (n3 : Int) by omega] at hl
              clear e1
              clear l3
              rw [show ((8 : Nat) : Int) = 8 from rfl]
              go_wp2_with fail
              go_ret
              exact ⟨rfl, F.out⟩
end Go.Proofs.Yteaoacinhdjkeaa
