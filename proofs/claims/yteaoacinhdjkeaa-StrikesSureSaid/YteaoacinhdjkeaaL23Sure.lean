import Derived.Test.YteaoacinhdjkeaaPkB
import Derived.Test.YteaoacinhdjkeaaL23Apart
/-
  The law StrikesSure.
-/
namespace Go.Proofs.Yteaoacinhdjkeaa
open Go.ChangeShapes Go.WideShapes Go.ChangeAt Go.RowKit Go.Deep Go.Maps
set_option maxRecDepth 100000

/-- What was told to be there, as the law's map holds it. -/
def tolE (s : Sk) : Value × Value := (s.key, .bool true)
theorem tol_key {K : List Sk} {id : Int} {v : Value} : ((.int .i64 id, v) : Value × Value) ∈ K.map tolE ↔ ∃ s ∈ K, (s.id : Int) = id ∧ v = .bool true := by
  rw [List.mem_map]
  constructor
  · rintro ⟨s, hs, he⟩
    unfold tolE Sk.key at he
    injection he with e1 e2
    injection e1 with _ e1
    exact ⟨s, hs, e1, e2.symm⟩
  · rintro ⟨s, hs, e1, e2⟩
    exact ⟨s, hs, by unfold tolE Sk.key; rw [e1, e2]⟩
theorem bool_zero23 (w : World) : (zeroValue 4).run Try.prog w = .ok (.bool false) w := by kernel_rfl
theorem tol_look {w : World} {b : Nat} {K : List Sk} (h : Mp Try.prog 3 w b (K.map tolE)) (ok : OkS K) {id : Int} (hi : -9223372036854775808 ≤ id ∧ id ≤ 9223372036854775807) :
    (Instr.lookup 74 (.map (some b)) (.int .i64 id) false).run Try.prog w = .ok (.bool (findS K id).isSome) w := by
  rcases h.look int_law Try.underlying74 (bool_zero23 w) (int_key Try.underlying3 hi) with ⟨v, h1, _, h3⟩ | ⟨h1, _, h3⟩
  · obtain ⟨s, hs, e1, e2⟩ := tol_key.1 h1
    have := findS_mem ok hs
    rw [e1] at this
    rw [h3, this, e2]
    rfl
  · have : findS K id = none := find_no fun s hs e => h1 _ (tol_key.2 ⟨s, hs, e, rfl⟩) rfl
    rw [h3, this]
    rfl
theorem tol_add {w : World} {b : Nat} {K : List Sk} (h : Mp Try.prog 3 w b (K.map tolE)) (ok : OkS K) {i a t : Nat} (hi : i ≤ 1000000) (hn : findS K (i : Int) = none) :
    ∃ w', (Instr.mapUpdate 74 (.map (some b)) (.int .i64 (i : Int)) (.bool true)).run Try.prog w = .ok () w' ∧ Mp Try.prog 3 w' b ((K ++ [(⟨i, a, t, false⟩ : Sk)]).map tolE) ∧ w.grownBy w' (some b) := by
  obtain ⟨w1, r1, r2, r3, _⟩ := h.add int_law Try.underlying74 (by have := ok.len; rw [List.length_map]; unfold maxLen; omega) (int_key Try.underlying3 (i := (i : Int)) (by omega)) (fun p hp e => by
    obtain ⟨k, v⟩ := p
    have e : k = .int .i64 (i : Int) := e
    subst e
    obtain ⟨s, hs, e1, _⟩ := tol_key.1 hp
    exact findS_none hn s hs e1) (.bool true)
  exact ⟨w1, r1, by rw [List.map_append]; exact r2, r3⟩
/-- The strike under way. -/
def UI (L U : List (List UInt8)) (und : Int) : Prop := (U = [] ∧ und = -1) ∨ ∃ a id : Nat, U = [bytesR ⟨1, a, id, 5⟩] ∧ und = (id : Int) ∧ a < 8 ∧ id ≤ 1000000 ∧ findS (kOf L) (id : Int) = none
def Al5 (K : List Sk) : Prop := ∀ s ∈ K, s.acc < 8 ∧ s.time = 5 ∧ s.rev = false
theorem kOf_add {L : List (List UInt8)} {a id t : Nat} (ha : a < 8) (hi : id ≤ 1000000) (ht : t ≤ 1000000) (hn : findS (kOf L) (id : Int) = none) : kOf (L ++ [bytesR ⟨1, a, id, t⟩]) = kOf L ++ [⟨id, a, t, false⟩] := by
  rw [kOf_snoc]
  unfold kAdd
  rw [recR_bytes ⟨.inl rfl, ha, hi, ht⟩]
  unfold followL
  dsimp only
  rw [if_pos rfl, hn]
  rfl
theorem Al5.add {K : List Sk} (h : Al5 K) {a id : Nat} (ha : a < 8) : Al5 (K ++ [⟨id, a, 5, false⟩]) := fun s hs => by
  rcases List.mem_append.1 hs with hs | hs
  · exact h s hs
  · rw [List.mem_singleton.1 hs]; exact ⟨ha, rfl, rfl⟩
theorem sum_step (k : Nat) : ∀ {K : List Sk}, Al5 K → (K.filter fun s => decide (s.acc < k + 1)).length = (K.filter fun s => decide (s.acc < k)).length + cntS K (k : Int) 5
  | [], _ => rfl
  | x :: K, h => by
    have ih := sum_step k (K := K) fun s hs => h s (List.mem_cons_of_mem _ hs)
    obtain ⟨h1, h2, h3⟩ := h x (List.mem_cons_self ..)
    have hp : pS (k : Int) 5 x = decide (x.acc = k) := by
      unfold pS
      have hw : IntKind.i64.wrap ((5 : Int) - 100) = -95 := by decide +kernel
      rw [hw, h3, h2]
      simp
      omega
    have hc : cntS (x :: K) (k : Int) 5 = (if x.acc = k then 1 else 0) + cntS K (k : Int) 5 := by
      unfold cntS
      rw [List.filter_cons, hp]
      by_cases q : x.acc = k
      · rw [decide_eq_true q, if_pos rfl, if_pos q, List.length_cons]; omega
      · rw [decide_eq_false q, if_neg q]; simp
    rw [hc, List.filter_cons, List.filter_cons]
    by_cases q1 : x.acc = k
    · rw [if_pos q1, decide_eq_true (show x.acc < k + 1 by omega), decide_eq_false (show ¬ x.acc < k by omega)]
      simp only [if_true, List.length_cons, Bool.false_eq_true, if_false]
      omega
    · rw [if_neg q1]
      by_cases q2 : x.acc < k
      · rw [decide_eq_true (show x.acc < k + 1 by omega), decide_eq_true q2]
        simp only [if_true, List.length_cons]
        omega
      · rw [decide_eq_false (show ¬ x.acc < k + 1 by omega), decide_eq_false q2]
        simp only [Bool.false_eq_true, if_false]
        omega
theorem sum_all {K : List Sk} (h : Al5 K) : (K.filter fun s => decide (s.acc < 8)).length = K.length := by
  rw [List.filter_eq_self.2 fun s hs => decide_eq_true (h s hs).1]
theorem sum_zero (K : List Sk) : (K.filter fun s => decide (s.acc < 0)).length = 0 := by
  rw [List.length_eq_zero_iff, List.filter_eq_nil_iff]
  intro s _
  simp
theorem and7 : ∀ i : Fin 41, bits BinOp.and IntKind.i64 (i.val : Int) 7 = ((i.val % 8 : Nat) : Int) := by decide +kernel
set_option maxHeartbeats 16000000 in
theorem ssure23_calls {w : World} {A : Option Addr} {n c : Nat} {zs : List Int} {f : Int} {kept : Nat} (ht : Is w A n c zs) (hf : -9223372036854775808 ≤ f ∧ f ≤ 9223372036854775807) (hk : kept < 18446744073709551616) :
    Calls Try.prog 7 #[.slice A n c, .int .i64 f, .int .u64 (kept : Int)] w fun e w' => e = .returned (.bool true) ∧ Ext w w' := by
  have AW := Lib.hid (awake23_calls (w := w))
  have hn1 := ht.le
  have hn2 := ht.cap
  replace ht := Lib.hid ht
  have hmm := @run_makeMap Try.prog
  go_enter Try.func7, Try.ntmps7
  go_wp2_with fail
  refine AW.out.mono ?_
  rintro e w1 ⟨rfl, x1⟩
  have ND := Lib.hid (dnew_ok (w := w1) (n := 64) (by omega) (by omega))
  replace x1 := Lib.hid x1
  clear AW
  go_wp2_with fail
  refine ND.out.mono ?_
  rintro e w2 ⟨dg, r, mb, rfl, q1, q2, q3, dk2, x2⟩
  have s1 := x1.out.size
  have BE := Lib.hid (GF.new (w := w) dk2 (x1.out.trans x2) (by omega) (by omega) (by omega))
  have C0 := Lib.hid (Cr22.new (m := 64) (by omega))
  rw [C0.out.recs (by omega)] at BE
  clear ND dk2 x1 x2 q1 q2 q3 s1
  go_wp2_with fail
  refine BE.out.mono ?_
  rintro e w3 ⟨g, lg, rfl, h3⟩
  have F3 := Lib.hid h3.ex
  have FU := Lib.hid (h3.fuse hf)
  clear BE h3
  by_cases a0 : 40 < n
  · have u1 : decide ((40 : Int) < (n : Int)) = true := decide_eq_true (by omega)
    go_wp2_with fail
    go_ret
    exact ⟨rfl, F3.out⟩
  have u1 : decide ((40 : Int) < (n : Int)) = false := decide_eq_false (by omega)
  by_cases a1 : f < 0
  · have u2 : decide (f < 0) = true := decide_eq_true a1
    go_wp2_with fail
    go_ret
    exact ⟨rfl, F3.out⟩
  have u2 : decide (f < 0) = false := decide_eq_false a1
  have hn5 : n ≤ 40 := by omega
  clear F3 a0 a1
  go_wp2_with fail
  refine FU.out.mono ?_
  rintro e w4 ⟨rfl, h4, x4⟩
  clear x4
  have B4 : Hid (GF (fun i => i = w4.heap.size) w (w4.alloc (.map #[] 0)) dg r lg ((newD 64).fuse f) [] (kOf []) ∧ Mp Try.prog 3 (w4.alloc (.map #[] 0)) w4.heap.size ((kOf []).map tolE)) := ⟨(h4.more ((Ext.refl w4).alloc _) (Nat.le_refl _) (by simp)).fewer (fun i q => .inr q), Mp.made w4 Try.prog 3⟩
  have S4 : Hid (St22 ((newD 64).fuse f) 64 [] []) := .inl ⟨rfl, C0.out.like rfl rfl, rfl⟩
  clear FU h4 C0
  go_upto_region 10 with fail
  refine wp_gen (fun W => GF (fun i => i = w4.heap.size) w W dg r lg ((newD 64).fuse f) [] (kOf []) ∧ Mp Try.prog 3 W w4.heap.size ((kOf []).map tolE)) B4.out ?_
  clear B4
  generalize w4.heap.size = tb at *
  clear w4
  rintro w5 ⟨gf5, mp5⟩
  go_wp2_with fail
  go_loopw [13, 14] (fun uv iv wr => ∃ (k : Nat) (d : Ds) (L U : List (List UInt8)) (und : Int), k ≤ n ∧ iv = .int .i64 (k : Int) ∧ uv = .int .i64 und ∧ GF (fun i => i = tb) w wr dg r lg d L (kOf L) ∧ Mp Try.prog 3 wr tb ((kOf L).map tolE) ∧ St22 d 64 L U ∧ UI L U und ∧ Al5 (kOf L) ∧ L.length ≤ k) (fun _ iv _ => n - (intOf iv).toNat)
  case atStart => exact ⟨0, _, [], [], -1, Nat.zero_le _, rfl, rfl, gf5, mp5, S4.out, .inl ⟨rfl, rfl⟩, (fun s h => by cases h), Nat.zero_le _⟩
  case round =>
    clear gf5 mp5 S4
    obtain ⟨k, d, L, U, und, hkn, rfl, rfl, gf, mp, st, ui, al, hL⟩ := hrel
    by_cases hk1 : k < n
    · have l1 : decide ((k : Int) < (n : Int)) = true := decide_eq_true (by omega)
      obtain ⟨b, off, rfl, hb, hcell⟩ := ht.out.pos (by omega)
      obtain ⟨hci, hz1, hz2⟩ := hcell k hk1
      have hbw : Hid (∀ s, Ext w s → s.cell? ⟨b, off + k, none⟩ = some (.int .i64 (nat_at zs k))) := fun s x => (x.cell (p := ⟨b, off + k, none⟩) hb).trans hci
      have cc := hbw.out wr gf.ex
      have k2 : (k : Int) < (n : Int) := by omega
      have k1 : IntKind.i64.wrap ((k : Int) + 1) = ((k + 1 : Nat) : Int) := (IntWalk.i64_in _ (by omega)).trans (by omega)
      have hi7 : bits BinOp.and IntKind.i64 (k : Int) 7 = ((k % 8 : Nat) : Int) := and7 ⟨k, by omega⟩
      obtain ⟨a, ha⟩ : ∃ a, a = k % 8 := ⟨_, rfl⟩
      have ha8 : a < 8 := by omega
      rw [← ha] at hi7
      replace ha := Lib.hid ha
      clear hcell hci
      generalize nat_at zs k = z at *
      by_cases hv : numB23 z = false
      · have AD := Lib.hid (sadd_bad (w := wr) (v := .pointer (some ⟨lg, 0, none⟩)) (a := (a : Int)) (i := z) (t := 5) (.inr (.inl hv)))
        replace gf := Lib.hid gf
        replace mp := Lib.hid mp
        replace st := Lib.hid st
        replace ui := Lib.hid ui
        replace al := Lib.hid al
        replace hv := Lib.hid hv
        go_wp2_with fail
        refine AD.out.mono ?_
        rintro e w6 ⟨rfl, rfl⟩
        clear AD
        go_wp2_with fail
        go_roundw
        case rel => exact ⟨k + 1, d, L, U, und, by omega, by go_num, rfl, gf.out, mp.out, st.out, ui.out, al.out, by omega⟩
        case measure => simp [intOf]; omega
      · obtain ⟨id, rfl⟩ : ∃ q : Nat, z = (q : Int) := by
          unfold numB23 at hv
          simp at hv
          exact ⟨z.toNat, by omega⟩
        have hid : id ≤ 1000000 := by
          unfold numB23 at hv
          simp at hv
          omega
        clear hv
        cases hoo : findS (kOf L) (id : Int) with
        | some sk =>
          obtain ⟨g', lb', led⟩ := gf.led
          have AD := Lib.hid (sadd_twice led (a := a) (i := id) (t := 5) ha8 hid (by omega) hoo)
          replace gf := Lib.hid gf
          replace mp := Lib.hid mp
          replace st := Lib.hid st
          replace ui := Lib.hid ui
          replace al := Lib.hid al
          clear led hoo
          go_wp2_with fail
          refine AD.out.mono ?_
          rintro e w6 ⟨rfl, x6⟩
          have F6 : Hid (GF (fun i => i = tb) w w6 dg r lg d L (kOf L) ∧ Mp Try.prog 3 w6 tb ((kOf L).map tolE)) := ⟨gf.out.ext x6, mp.out.ext x6⟩
          clear AD x6 gf mp
          go_wp2_with fail
          go_roundw
          case rel => exact ⟨k + 1, d, L, U, und, by omega, by go_num, rfl, F6.out.1, F6.out.2, st.out, ui.out, al.out, by omega⟩
          case measure => simp [intOf]; omega
        | none =>
          have AD := gf.add (by omega) (a := a) (i := id) (t := 5) ha8 hid (by omega) hoo
          have okK := Lib.hid gf.ok
          have KA := Lib.hid (kOf_add (L := L) (a := a) (t := 5) ha8 hid (by omega) hoo)
          have FOL : Hid (followL (kOf L) ⟨1, a, id, 5⟩ = kOf L ++ [⟨id, a, 5, false⟩]) := by
            unfold Hid followL
            dsimp only
            rw [if_pos rfl, hoo]
            rfl
          rcases st.step (x := bytesR ⟨1, a, id, 5⟩) (by rw [bytesR_len]; omega) (by omega) with ⟨e1, rfl, s2, s3⟩ | ⟨e1, s2, s3⟩
          · rw [e1, s3, if_pos rfl, FOL.out, ← KA.out] at AD
            replace AD := Lib.hid AD
            replace s2 := Lib.hid s2
            replace mp := Lib.hid mp
            replace al := Lib.hid al
            replace ui := Lib.hid ui
            replace hoo := Lib.hid hoo
            clear gf st e1 s3
            generalize d.jD L.length (bytesR ⟨1, a, id, 5⟩) = d' at *
            go_wp2_with fail
            refine AD.out.mono ?_
            rintro e w6 ⟨rfl, gf6, k6⟩
            have mp6 := Lib.hid (mp.out.stay (k6.same mp.out.lt fun q => q.2 rfl))
            have cc6 := hbw.out w6 gf6.ex
            have LW := tol_look mp6.out okK.out (id := (id : Int)) (by omega)
            rw [hoo.out] at LW
            obtain ⟨w7, d1, d2, d3⟩ := tol_add mp6.out okK.out (i := id) (a := a) (t := 5) hid hoo.out
            rw [← KA.out] at d2
            have gf7 := Lib.hid (gf6.turn (Ot.of_grown d3 rfl) (fun i q j x => by
              subst q
              obtain ⟨es, cl, q2⟩ := mp6.out.obj
              exact no_cell q2 (fun _ _ _ q => by cases q) j _))
            have al7 : Hid (Al5 (kOf (L ++ [bytesR ⟨1, a, id, 5⟩]))) := by rw [KA.out]; exact al.out.add ha8
            have ui7 : Hid (UI (L ++ [bytesR ⟨1, a, id, 5⟩]) [] und) := by
              rcases ui.out with ⟨_, q⟩ | ⟨_, _, q, _⟩
              · exact .inl ⟨rfl, q⟩
              · cases q
            replace d2 := Lib.hid d2
            clear AD gf6 k6 mp mp6 d3
            go_wp2_with (first
              | (refine wpList_lookup_mp rfl _ _ rfl rfl rfl LW ?_; go_frame)
              | (refine wpList_of_wp rfl fun K_ hK => ?_; refine wp_mapUpdate rfl rfl rfl rfl d1 ?_; refine hK _ _ ?_; go_frame))
            go_roundw
            case rel => exact ⟨k + 1, d', _, [], und, by omega, by go_num, rfl, gf7.out, d2.out, s2.out, ui7.out, al7.out, by simp; omega⟩
            case measure => simp [intOf]; omega
          · rw [e1, s3, if_neg (by decide)] at AD
            replace AD := Lib.hid AD
            replace s2 := Lib.hid s2
            replace mp := Lib.hid mp
            replace al := Lib.hid al
            clear gf st e1 s3 KA FOL okK
            generalize d.jD L.length (bytesR ⟨1, a, id, 5⟩) = d' at *
            rcases ui with ⟨rfl, rfl⟩ | ⟨a', id', rfl, rfl, u3, u4, u5⟩
            · have ui7 : Hid (UI L [bytesR ⟨1, a, id, 5⟩] (id : Int)) := .inr ⟨a, id, rfl, rfl, ha8, hid, hoo⟩
              replace s2 : Hid (St22 d' 64 L [bytesR ⟨1, a, id, 5⟩]) := s2
              replace hoo := Lib.hid hoo
              go_wp2_with fail
              refine AD.out.mono ?_
              rintro e w6 ⟨rfl, gf6, k6⟩
              have mp6 := Lib.hid (mp.out.stay (k6.same mp.out.lt fun q => q.2 rfl))
              have cc6 := hbw.out w6 gf6.ex
              replace gf6 := Lib.hid gf6
              clear AD k6 mp
              go_wp2_with fail
              go_roundw
              case rel => exact ⟨k + 1, d', L, _, _, by omega, by go_num, rfl, gf6.out, mp6.out, s2.out, ui7.out, al.out, by omega⟩
              case measure => simp [intOf]; omega
            · have ui7 : Hid (UI L [bytesR ⟨1, a', id', 5⟩] (id' : Int)) := .inr ⟨a', id', rfl, rfl, u3, u4, u5⟩
              replace s2 : Hid (St22 d' 64 L [bytesR ⟨1, a', id', 5⟩]) := s2
              replace hoo := Lib.hid hoo
              clear u5
              go_wp2_with fail
              refine AD.out.mono ?_
              rintro e w6 ⟨rfl, gf6, k6⟩
              have mp6 := Lib.hid (mp.out.stay (k6.same mp.out.lt fun q => q.2 rfl))
              replace gf6 := Lib.hid gf6
              clear AD k6 mp
              go_wp2_with fail
              go_roundw
              case rel => exact ⟨k + 1, d', L, _, _, by omega, by go_num, rfl, gf6.out, mp6.out, s2.out, ui7.out, al.out, by omega⟩
              case measure => simp [intOf]; omega
    · obtain rfl : k = n := by omega
      have l1 : decide ((k : Int) < (k : Int)) = false := decide_eq_false (by omega)
      have CR := Lib.hid (gf.crash hk)
      obtain ⟨L', hL', cr'⟩ : ∃ L', (L' = L ∨ L' = L ++ U) ∧ Cr22 (d.crash kept) 64 L' := by
        rcases st.crash kept with q | q
        · exact ⟨L, .inl rfl, q⟩
        · exact ⟨L ++ U, .inr rfl, q⟩
      have RT : Hid ((kOf L' = kOf L ∧ findS (kOf L') und = none) ∨ ∃ a id : Nat, und = (id : Int) ∧ a < 8 ∧ id ≤ 1000000 ∧ findS (kOf L) (id : Int) = none ∧ kOf L' = kOf L ++ [⟨id, a, 5, false⟩]) := by
        have nn : findS (kOf L) und = none := by
          rcases ui with ⟨_, q⟩ | ⟨_, id, _, q, _, _, q2⟩
          · rw [q]; exact find_no fun s _ => by omega
          · rw [q]; exact q2
        rcases hL' with q | q
        · rw [q]; exact .inl ⟨rfl, nn⟩
        · rcases ui with ⟨u1, _⟩ | ⟨a, id, u1, u2, u3, u4, u5⟩
          · rw [q, u1, List.append_nil]; exact .inl ⟨rfl, nn⟩
          · rw [q, u1, kOf_add u3 u4 (by omega) u5]; exact .inr ⟨a, id, u2, u3, u4, u5, rfl⟩
      have undB : -9223372036854775808 ≤ und ∧ und ≤ 9223372036854775807 := by
        rcases ui with ⟨_, q⟩ | ⟨_, id, _, q, _, q2, _⟩ <;> omega
      have al' : Hid (Al5 (kOf L')) := by
        rcases RT.out with ⟨q, _⟩ | ⟨a, id, _, q, _, _, q2⟩
        · rw [q]; exact al
        · rw [q2]; exact al.add q
      have okT := Lib.hid gf.ok
      replace mp := Lib.hid mp
      replace cr' := Lib.hid cr'
      clear gf st ui al hL hL'
      go_wp2_with fail
      refine CR.out.mono ?_
      rintro e w6 ⟨rfl, gf6, k6⟩
      have mp6 := Lib.hid (mp.out.stay (k6.same mp.out.lt fun q => q.2 rfl))
      have BE := gf6.begun
      rw [cr'.out.recs (by omega)] at BE
      replace BE := Lib.hid BE
      clear CR mp k6 gf6
      go_wp2_with fail
      refine BE.out.mono ?_
      rintro e w7 ⟨g7, lg7, rfl, gf7, x7⟩
      have mp7 := Lib.hid (mp6.out.ext x7)
      replace gf7 := Lib.hid gf7
      clear BE mp6 x7 cr'
      generalize d.crash kept = d' at *
      obtain ⟨T, hT⟩ : ∃ q, q = kOf L := ⟨_, rfl⟩
      obtain ⟨T', hT'⟩ : ∃ q, q = kOf L' := ⟨_, rfl⟩
      rw [← hT] at RT okT mp7
      rw [← hT'] at RT al' gf7
      clear hT hT'
      have RZ : Hid (∀ z, ((findS T z).isSome = true → (findS T' z).isSome = true ∧ ∃ id : Nat, z = (id : Int) ∧ id ≤ 1000000) ∧ ((findS T z).isSome = false → (findS T' z).isSome = true → z = und)) := fun z => by
        refine ⟨fun q => ?_, fun q q2 => ?_⟩
        · obtain ⟨s, hs⟩ := Option.isSome_iff_exists.1 q
          obtain ⟨h1, h2⟩ := findS_some hs
          refine ⟨?_, s.id, h2.symm, (okT.out.ok s h1).2.1⟩
          rcases RT.out with ⟨e, _⟩ | ⟨a, id, _, _, _, _, e⟩
          · rw [e]; exact q
          · rw [e]; exact find_mono _ q
        · rcases RT.out with ⟨e, _⟩ | ⟨a, id, e1, _, _, _, e⟩
          · rw [e] at q2; rw [q] at q2; cases q2
          · obtain ⟨s, hs⟩ := Option.isSome_iff_exists.1 q2
            rw [e] at hs
            obtain ⟨h1, h2⟩ := findS_some hs
            rcases List.mem_append.1 h1 with h1 | h1
            · exfalso
              cases e3 : findS T z with
              | none => exact findS_none e3 s h1 h2
              | some _ => rw [e3] at q; cases q
            · rw [List.mem_singleton.1 h1] at h2
              exact h2.symm.trans e1.symm
      have TL : Hid (T'.length ≤ 1000001) := gf7.out.ok.len
      have S0 := Lib.hid (sum_zero T')
      go_wp2_with fail
      go_loopw [18, 19] (fun av jv wr => ∃ j : Nat, j ≤ 8 ∧ jv = .int .i64 (j : Int) ∧ av = .int .i64 ((T'.filter fun s => decide (s.acc < j)).length : Int) ∧ GF (fun i => i = tb) w wr dg r lg7 d' L' T' ∧ Mp Try.prog 3 wr tb (T.map tolE)) (fun _ jv _ => 8 - (intOf jv).toNat)
      case atStart => exact ⟨0, Nat.zero_le _, rfl, by rw [S0.out]; rfl, gf7.out, mp7.out⟩
      case round =>
        clear gf7 mp7 S0
        obtain ⟨j, hj, rfl, rfl, gf, mp⟩ := hrel
        by_cases hj8 : j < 8
        · have l2 : decide ((j : Int) < 8) = true := decide_eq_true (by omega)
          have j1 : IntKind.i64.wrap ((j : Int) + 1) = ((j + 1 : Nat) : Int) := (IntWalk.i64_in _ (by omega)).trans (by omega)
          obtain ⟨g', lb', led⟩ := gf.led
          have CO := Lib.hid (scount_calls led (a := (j : Int)) (now := 5))
          have ST := Lib.hid (sum_step j al'.out)
          have c1 := cnt_le T' (j : Int) 5
          have c2 : (T'.filter fun s => decide (s.acc < j)).length ≤ T'.length := List.length_filter_le _ _
          have c3 := TL.out
          obtain ⟨fj, hfj⟩ : ∃ q, q = (T'.filter fun s => decide (s.acc < j)).length := ⟨_, rfl⟩
          rw [← hfj] at ST c2 ⊢
          replace hfj := Lib.hid hfj
          generalize cntS T' (j : Int) 5 = cj at *
          have w1_ : IntKind.i64.wrap ((fj : Int) + (cj : Int)) = ((fj + cj : Nat) : Int) := (IntWalk.i64_in _ (by omega)).trans (by omega)
          replace gf := Lib.hid gf
          replace mp := Lib.hid mp
          clear led
          go_wp2_with fail
          refine CO.out.mono ?_
          rintro e w8 ⟨rfl, x8⟩
          have F8 : Hid (GF (fun i => i = tb) w w8 dg r lg7 d' L' T' ∧ Mp Try.prog 3 w8 tb (T.map tolE)) := ⟨gf.out.ext x8, mp.out.ext x8⟩
          clear CO x8 gf mp
          go_wp2_with fail
          go_roundw
          case rel => exact ⟨j + 1, by omega, by go_num, by rw [ST.out]; go_num, F8.out⟩
          case measure => simp [intOf]; omega
        · obtain rfl : j = 8 := by omega
          have S8 := Lib.hid (sum_all al'.out)
          rw [show ((8 : Nat) : Int) = 8 from rfl, S8.out]
          obtain ⟨g', lb', led⟩ := gf.led
          have OF := Lib.hid (sof_calls led (id := und) undB)
          have hl := fun W (x : Ext wr W) => (mp.ext x).len Try.underlying74 3
          replace hl := Lib.hid hl
          replace gf := Lib.hid gf
          replace mp := Lib.hid mp
          clear led
          go_wp2_with fail
          refine OF.out.mono ?_
          rintro e w8 ⟨rfl, x8⟩
          have gf8 := Lib.hid (gf.out.ext x8)
          have mp8 := Lib.hid (mp.out.ext x8)
          have hl8 := hl.out w8 x8
          rw [List.length_map] at hl8
          generalize ofA (findS T' und) = oa at *
          generalize ofR (findS T' und) = or_ at *
          clear OF hl gf mp x8
          have tl := TL.out
          obtain ⟨hb, hhb⟩ : ∃ q, q = (findS T' und).isSome := ⟨_, rfl⟩
          rw [← hhb]
          have CASES : (hb = false ∧ T.length = T'.length ∧ decide (0 ≤ und) = true) ∨ (hb = false ∧ T.length = T'.length ∧ decide (0 ≤ und) = false) ∨ (hb = true ∧ T.length + 1 = T'.length ∧ decide (0 ≤ und) = true) := by
            rcases RT.out with ⟨e1, e2⟩ | ⟨a, id, e1, e2, e3, e4, e5⟩
            · by_cases q : 0 ≤ und
              · exact .inl ⟨by rw [hhb, e2]; rfl, by rw [e1], decide_eq_true q⟩
              · exact .inr (.inl ⟨by rw [hhb, e2]; rfl, by rw [e1], decide_eq_false q⟩)
            · refine .inr (.inr ⟨?_, by rw [e5]; simp, decide_eq_true (by omega)⟩)
              rw [hhb, e5, e1, find_snoc (fun s hs e => by
                have := findS_none e4 s hs
                omega)]
              rfl
          replace hhb := Lib.hid hhb
          clear RT S8
          obtain ⟨tl, htl⟩ : ∃ q, q = T.length := ⟨_, rfl⟩
          obtain ⟨tl', htl'⟩ : ∃ q, q = T'.length := ⟨_, rfl⟩
          rw [← htl] at hl8 CASES
          rw [← htl'] at CASES TL ⊢
          replace htl := Lib.hid htl
          replace htl' := Lib.hid htl'
          have tlb := TL.out
          rcases CASES with ⟨rfl, rfl, du⟩ | ⟨rfl, rfl, du⟩ | ⟨rfl, rfl, du⟩
          all_goals (
            try (have wv : IntKind.i64.wrap ((tl : Int) + 1) = ((tl + 1 : Nat) : Int) := (IntWalk.i64_in _ (by omega)).trans (by omega))
            go_wp2_with fail
            go_loopw [24] (fun iv wr => ∃ i : Nat, i ≤ k ∧ iv = .int .i64 (i : Int) ∧ GF (fun i => i = tb) w wr dg r lg7 d' L' T' ∧ Mp Try.prog 3 wr tb (T.map tolE)) (fun iv _ => k - (intOf iv).toNat)
            case atStart => exact ⟨0, Nat.zero_le _, rfl, gf8.out, mp8.out⟩
            case round =>
              clear gf8 mp8 hl8
              obtain ⟨i, hi, rfl, gf, mp⟩ := hrel
              by_cases hik : i < k
              · have l3 : decide ((i : Int) < (k : Int)) = true := decide_eq_true (by omega)
                obtain ⟨b, off, rfl, hb, hcell⟩ := ht.out.pos (by omega)
                obtain ⟨hci, hz1, hz2⟩ := hcell i hik
                have hbw : Hid (∀ s, Ext w s → s.cell? ⟨b, off + i, none⟩ = some (.int .i64 (nat_at zs i))) := fun s x => (x.cell (p := ⟨b, off + i, none⟩) hb).trans hci
                have cc := hbw.out wr gf.ex
                have i2 : (i : Int) < (k : Int) := by omega
                have i1 : IntKind.i64.wrap ((i : Int) + 1) = ((i + 1 : Nat) : Int) := (IntWalk.i64_in _ (by omega)).trans (by omega)
                obtain ⟨g', lb', led⟩ := gf.led
                have OF := Lib.hid (sof_calls led (id := nat_at zs i) ⟨hz1, hz2⟩)
                have LW : Hid (∀ s, Ext wr s → (Instr.lookup 74 (.map (some tb)) (.int .i64 (nat_at zs i)) false).run Try.prog s = .ok (.bool (findS T (nat_at zs i)).isSome) s) := fun s x => tol_look (mp.ext x) okT.out ⟨hz1, hz2⟩
                have RZi := Lib.hid (RZ.out (nat_at zs i))
                have TW : Hid (∀ s, Ext wr s → ∀ id : Nat, id ≤ 1000000 → (findS T' (id : Int)).isSome = true → Calls Try.prog 30 #[.pointer (some ⟨lg7, 0, none⟩), .int .i64 0, .int .i64 (id : Int), .int .i64 9] s fun e w' => e = .returned (.int .i64 9) ∧ Ext s w') := fun s x id h1 h2 => by
                  obtain ⟨sk, hsk⟩ := Option.isSome_iff_exists.1 h2
                  exact sadd_twice (led.ext x) (a := 0) (i := id) (t := 9) (by omega) h1 (by omega) hsk
                replace gf := Lib.hid gf
                replace mp := Lib.hid mp
                clear led hcell hci hz1 hz2
                generalize nat_at zs i = z at *
                go_wp2_with fail
                refine OF.out.mono ?_
                rintro e w9 ⟨rfl, x9⟩
                have LW9 := LW.out w9 x9
                have cc9 := hbw.out w9 (gf.out.ex.trans x9)
                generalize ofA (findS T' z) = oa_ at *
                generalize ofR (findS T' z) = orr at *
                clear OF cc
                cases hT : (findS T z).isSome with
                | true =>
                  obtain ⟨hK, id, rfl, hid⟩ := RZi.out.1 hT
                  have TW9 := Lib.hid (TW.out w9 x9 id hid hK)
                  rw [hT] at LW9 LW
                  rw [hK]
                  replace hT := Lib.hid hT
                  replace hK := Lib.hid hK
                  replace x9 := Lib.hid x9
                  clear TW RZi
                  go_wp2_with (first
                    | (refine wpList_lookup_mp rfl _ _ rfl rfl rfl LW9 ?_; go_frame)
                    | (refine BigFrame.wpList_want rfl fun K_ hK_ => ?_; refine wp_exec22 (exec_lookup rfl rfl rfl LW9) ?_; refine hK_ _ _ ?_; go_frame))
                  refine TW9.out.mono ?_
                  rintro e w10 ⟨rfl, x10⟩
                  have X10 := x9.out.trans x10
                  have LW10 := LW.out w10 X10
                  have cc10 := hbw.out w10 (gf.out.ex.trans X10)
                  have F10 : Hid (GF (fun i => i = tb) w w10 dg r lg7 d' L' T' ∧ Mp Try.prog 3 w10 tb (T.map tolE)) := ⟨gf.out.ext X10, mp.out.ext X10⟩
                  clear TW9 LW hbw gf mp x9 x10 X10 LW9 cc9
                  go_wp2_with (first
                    | (refine wpList_lookup_mp rfl _ _ rfl rfl rfl LW10 ?_; go_frame)
                    | (refine BigFrame.wpList_want rfl fun K_ hK_ => ?_; refine wp_exec22 (exec_lookup rfl rfl rfl LW10) ?_; refine hK_ _ _ ?_; go_frame))
                  go_roundw
                  case rel => exact ⟨i + 1, by omega, by go_num, F10.out⟩
                  case measure => simp [intOf]; omega
                | false =>
                  rw [hT] at LW9
                  have F9 : Hid (GF (fun i => i = tb) w w9 dg r lg7 d' L' T' ∧ Mp Try.prog 3 w9 tb (T.map tolE)) := ⟨gf.out.ext x9, mp.out.ext x9⟩
                  clear TW LW hbw gf mp x9
                  cases hK : (findS T' z).isSome with
                  | false =>
                    replace hT := Lib.hid hT
                    replace hK := Lib.hid hK
                    clear RZi
                    go_wp2_with (first
                      | (refine wpList_lookup_mp rfl _ _ rfl rfl rfl LW9 ?_; go_frame)
                      | (refine BigFrame.wpList_want rfl fun K_ hK_ => ?_; refine wp_exec22 (exec_lookup rfl rfl rfl LW9) ?_; refine hK_ _ _ ?_; go_frame))
                    go_roundw
                    case rel => exact ⟨i + 1, by omega, by go_num, F9.out⟩
                    case measure => simp [intOf]; omega
                  | true =>
                    obtain rfl := RZi.out.2 hT hK
                    replace hT := Lib.hid hT
                    replace hK := Lib.hid hK
                    clear RZi
                    go_wp2_with (first
                      | (refine wpList_lookup_mp rfl _ _ rfl rfl rfl LW9 ?_; go_frame)
                      | (refine BigFrame.wpList_want rfl fun K_ hK_ => ?_; refine wp_exec22 (exec_lookup rfl rfl rfl LW9) ?_; refine hK_ _ _ ?_; go_frame))
                    go_roundw
                    case rel => exact ⟨i + 1, by omega, by go_num, F9.out⟩
                    case measure => simp [intOf]; omega
              · obtain rfl : i = k := by omega
                have l3 : decide ((i : Int) < (i : Int)) = false := decide_eq_false (by omega)
                have F := Lib.hid gf.ex
                clear gf mp
                go_wp2_with fail
                go_ret
                exact ⟨rfl, F.out⟩)
end Go.Proofs.Yteaoacinhdjkeaa
