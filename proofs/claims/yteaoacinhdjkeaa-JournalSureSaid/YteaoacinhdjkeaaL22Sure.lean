/-
  The law JournalSure.
-/
import Derived.Test.YteaoacinhdjkeaaJsN
namespace Go.Proofs.Yteaoacinhdjkeaa
open Go.ChangeShapes Go.WideShapes Go.ChangeAt Go.RowKit Go.Deep Go.Maps
set_option maxRecDepth 100000

set_option maxHeartbeats 8000000 in
theorem sure22_calls {w : World} {A : Option Addr} {n c : Nat} {l : List (List UInt8)} {f : Int} {k0 k1 : Nat} (hr : Rw w A n c l) (hf : -9223372036854775808 ≤ f ∧ f ≤ 9223372036854775807) (hk0 : k0 < 18446744073709551616) (hk1 : k1 < 18446744073709551616) :
    Calls Try.prog 4 #[.slice A n c, .int .i64 f, .agg #[.int .u64 (k0 : Int), .int .u64 (k1 : Int)]] w fun e w' => e = .returned (.bool true) ∧ Ext w w' := by
  have h1 := hr.le
  have h2 := hr.cap
  obtain ⟨r5, hr5⟩ : ∃ q, q = w.heap.size := ⟨_, rfl⟩
  have B0 : Hid (Cb (w.alloc (.cells #[.int .u64 (k0 : Int), .int .u64 (k1 : Int)] 56)) r5 56 [.int .u64 (k0 : Int), .int .u64 (k1 : Int)] ∧ Rw (w.alloc (.cells #[.int .u64 (k0 : Int), .int .u64 (k1 : Int)] 56)) A n c l ∧ Ext w (w.alloc (.cells #[.int .u64 (k0 : Int), .int .u64 (k1 : Int)] 56))) := by rw [hr5]; exact ⟨Cb.new _ _ [_, _], hr.ext ((Ext.refl w).alloc _), (Ext.refl w).alloc _⟩
  clear hr
  go_enter Try.func4, Try.ntmps4
  go_upto_region 1 with fail
  refine wp_gen (fun W => Cb W r5 56 [.int .u64 (k0 : Int), .int .u64 (k1 : Int)] ∧ Rw W A n c l ∧ Ext w W) B0.out ?_
  rw [← hr5]
  replace hr5 := Lib.hid hr5
  clear B0
  rintro w0 ⟨kb, hr, x0⟩
  replace kb := Lib.hid kb
  replace hr := Lib.hid hr
  replace x0 := Lib.hid x0
  have AW := Lib.hid (awake22_calls (w := w0))
  go_wp2_with fail
  refine AW.out.mono ?_
  rintro e w1 ⟨rfl, x1⟩
  have ND1 := Lib.hid (dnew_ok (w := w1) (n := 64) (by omega) (by omega))
  replace x1 := Lib.hid x1
  clear AW
  go_wp2_with fail
  refine ND1.out.mono ?_
  rintro e w2 ⟨dg, r, mb, rfl, q1, q2, q3, dk2, x2⟩
  have s1 := x1.out.size
  have OP := Lib.hid (JN.opened dk2 (x1.out.trans x2) (by omega) (by omega) (by omega))
  have C0 := Lib.hid (Cr22.new (m := 64) (by omega))
  rw [C0.out.recs (by omega)] at OP
  clear ND1 dk2 x1 x2 q1 q2 q3 s1
  go_wp2_with fail
  refine OP.out.mono ?_
  rintro e w3 ⟨g, D, c3, rfl, j3, _⟩
  have S3 : Hid (SU w0 w3 g dg r mb (newD 64) w2.heap.size D c3 [] none 0 [] none 0 []) := ⟨_, fun i => w0.heap.size ≤ i, j3, OwnS.nil _ _ _, OwnS.nil _ _ _, j3.wr, fun i q => Nat.le_trans j3.wB (j3.jk.2.1.ge i q).1, fun i q => q, fun i q => (by cases q), fun i q => (by cases q)⟩
  clear OP j3
  generalize w2.heap.size = B at *
  have F3 := Lib.hid (x0.out.trans S3.out.ex)
  by_cases hn : n ≤ 60
  · have l1 : decide ((60 : Int) < (n : Int)) = false := decide_eq_false (by omega)
    by_cases hf0 : f < 0
    · have l2 : decide (f < 0) = true := decide_eq_true hf0
      go_wp2_with fail
      go_ret
      exact ⟨rfl, F3.out⟩
    · have l2 : decide (f < 0) = false := decide_eq_false hf0
      clear F3
      go_wp2_with fail
      go_loopw [10, 12, 13] (fun pj sv rv wr => ∃ (ρ g mb : Nat) (d : Ds) (B : Nat) (D : Option Addr) (c' : Nat) (L : List (List UInt8)) (Dq : Option Addr) (cq : Nat), ρ ≤ 2 ∧ pj = .pointer (some ⟨g, 0, none⟩) ∧ sv = .slice Dq L.length cq ∧ rv = .int .i64 (ρ : Int) ∧ SU w0 wr g dg r mb d B D c' L Dq cq L none 0 [] ∧ Cr22 d 64 L ∧ d.dd = false ∧ L.length ≤ 26 * ρ) (fun _ _ rv _ => 2 - (intOf rv).toNat)
      case atStart => exact ⟨0, g, mb, newD 64, B, D, c3, [], none, 0, by omega, rfl, rfl, rfl, S3.out, C0.out, rfl, Nat.zero_le _⟩
      case round =>
        clear S3 C0
        obtain ⟨ρ, g, mb, d, B, D, c', L, Dq, cq, hρ, rfl, rfl, rfl, su, cr, hdd, hL⟩ := hrel
        by_cases hρ2 : ρ < 2
        · have l3 : decide ((ρ : Int) < 2) = true := decide_eq_true (by omega)
          have FU := Lib.hid (dfuse_calls su.dk (n := f) hf)
          replace su := Lib.hid su
          replace cr := Lib.hid cr
          replace hdd := Lib.hid hdd
          go_wp2_with fail
          refine FU.out.mono ?_
          rintro e w4 ⟨rfl, dk4, g4⟩
          have su4 := Lib.hid (su.out.disk dk4 (Ot.of_grown g4 (.inl rfl)) (.inl rfl))
          have st4 : Hid (St22 (d.fuse f) 64 L []) := .inl ⟨rfl, cr.out.like rfl rfl, hdd.out⟩
          clear FU su cr hdd dk4 g4
          go_wp2_with fail
          go_loopw [12, 14, 15] (fun sv uv iv wr => ∃ (k mb : Nat) (d : Ds) (D : Option Addr) (c' : Nat) (L : List (List UInt8)) (Dq : Option Addr) (cq : Nat) (U : List (List UInt8)) (Du : Option Addr) (cu : Nat), k ≤ n ∧ k ≤ 25 ∧ iv = .int .i64 (k : Int) ∧ sv = .slice Dq L.length cq ∧ uv = .slice Du U.length cu ∧ SU w0 wr g dg r mb d B D c' L Dq cq L Du cu U ∧ St22 d 64 L U ∧ (U = [] → Du = none ∧ cu = 0) ∧ U.length ≤ 1 ∧ L.length ≤ 26 * ρ + k) (fun _ _ iv _ => n - (intOf iv).toNat)
          case atStart => exact ⟨0, mb, _, D, c', L, Dq, cq, [], none, 0, Nat.zero_le _, Nat.zero_le _, rfl, rfl, rfl, su4.out, st4.out, fun _ => ⟨rfl, rfl⟩, Nat.zero_le _, by omega⟩
          case round =>
            clear su4 st4
            obtain ⟨k, mb, d, D, c', L, Dq, cq, U, Du, cu, hk, hk25, rfl, rfl, rfl, su, st, hU, hU1, hL⟩ := hrel
            by_cases hkn : k < n
            · have l4 : decide ((k : Int) < (n : Int)) = true := decide_eq_true (by omega)
              by_cases hk2 : k < 25
              · have l5 : decide ((k : Int) < 25) = true := decide_eq_true (by omega)
                obtain ⟨b, off, rfl, hb, hcell⟩ := hr.out.pos (by omega)
                obtain ⟨A1, n1, c1, hc1, hb1⟩ := hcell k hkn
                have cc := (su.ex.cell (p := ⟨b, off + k, none⟩) hb).trans hc1
                have hbl := hb1.len
                clear hcell
                generalize l.getD k [] = x at *
                by_cases h59 : 59 < n1
                · have l6 : decide ((59 : Int) < (n1 : Int)) = true := decide_eq_true (by omega)
                  have F := Lib.hid (x0.out.trans su.ex)
                  clear su st hU hc1 hb1 hbl
                  go_wp2_with fail
                  go_ret
                  exact ⟨rfl, F.out⟩
                · have l6 : decide ((59 : Int) < (n1 : Int)) = false := decide_eq_false (by omega)
                  have AP := su.append (A := A1) (n := n1) (c' := c1) (by omega) hb1 (by omega)
                  rcases st.step (x := x) (by omega) (by omega) with ⟨e1, rfl, s2, s3⟩ | ⟨e1, s2, s3⟩
                  · rw [e1, s3] at AP
                    obtain ⟨rfl, rfl⟩ := hU rfl
                    replace AP := Lib.hid AP
                    replace s2 := Lib.hid s2
                    replace hc1 := Lib.hid hc1
                    replace hb1 := Lib.hid hb1
                    clear su st hU e1 s3
                    go_wp2_with fail
                    refine AP.out.mono ?_
                    rintro e w5 ⟨rfl, mb5, D5, c5, su5⟩
                    have cc5 := (su5.ex.cell (p := ⟨b, off + k, none⟩) hb).trans hc1.out
                    have x5 : Ext w5 (w5.alloc (.cells #[.slice A1 n1 c1] 37)) := (Ext.refl w5).alloc _
                    have su5a := Lib.hid (su5.ext x5)
                    have hcc := Lib.hid ((Cb.new w5 37 [.slice A1 n1 c1]).cell (j := 0) rfl)
                    clear AP su5 x5 cc
                    go_wp2_with (refine wpList_plain rfl fun K hK => ?_; refine su5a.out.add hb1.out hcc.out (by omega) rfl rfl rfl ?_; intro D6 c6 w6 su6; replace su6 := Lib.hid su6; refine hK _ _ ?_)
                    go_roundw
                    case rel => exact ⟨k + 1, mb5, _, D5, c5, L ++ [x], D6, c6, [], none, 0, by omega, by omega, by go_num, by simp, rfl, su6.out, s2.out, fun _ => ⟨rfl, rfl⟩, Nat.zero_le _, by simp; omega⟩
                    case measure => simp [intOf]; omega
                  · rw [e1, s3] at AP
                    replace AP := Lib.hid AP
                    replace s2 := Lib.hid s2
                    replace hc1 := Lib.hid hc1
                    replace hb1 := Lib.hid hb1
                    clear su st e1 s3
                    go_wp2_with fail
                    refine AP.out.mono ?_
                    rintro e w5 ⟨rfl, mb5, D5, c5, su5⟩
                    have cc5 := (su5.ex.cell (p := ⟨b, off + k, none⟩) hb).trans hc1.out
                    cases U with
                    | nil =>
                      obtain ⟨rfl, rfl⟩ := hU rfl
                      have su6 := Lib.hid (su5.under hb1.out)
                      replace s2 : Hid (St22 (d.jD L.length x) 64 L [x]) := s2
                      clear AP su5 cc hU
                      go_wp2_with fail
                      go_roundw
                      case rel => exact ⟨k + 1, mb5, _, D5, c5, L, Dq, cq, [x], _, 1, by omega, by omega, by go_num, rfl, rfl, su6.out, s2.out, fun q => (by cases q), Nat.le_refl _, by omega⟩
                      case measure => simp [intOf]; omega
                    | cons y U' =>
                      have hU' : U' = [] := List.eq_nil_of_length_eq_zero (by have q : (y :: U').length ≤ 1 := hU1; rw [List.length_cons] at q; omega)
                      subst hU'
                      replace s2 : Hid (St22 (d.jD L.length x) 64 L [y]) := s2
                      replace su5 := Lib.hid su5
                      clear AP cc hU
                      go_wp2_with fail
                      go_roundw
                      case rel => exact ⟨k + 1, mb5, _, D5, c5, L, Dq, cq, [y], Du, cu, by omega, by omega, by go_num, rfl, rfl, su5.out, s2.out, fun q => (by cases q), Nat.le_refl _, by omega⟩
                      case measure => simp [intOf]; omega
              · have l5 : decide ((k : Int) < 25) = false := decide_eq_false (by omega)
                obtain ⟨kr, hkr, ckr⟩ : ∃ kr : Nat, kr < 18446744073709551616 ∧ ([.int .u64 (k0 : Int), .int .u64 (k1 : Int)] : List Value)[ρ]? = some (.int .u64 (kr : Int)) := by
                  obtain rfl | rfl : ρ = 0 ∨ ρ = 1 := by omega
                  · exact ⟨k0, hk0, rfl⟩
                  · exact ⟨k1, hk1, rfl⟩
                have ck := (su.ex.cell (p := ⟨r5, ρ, none⟩) kb.out.lt).trans (kb.out.cell ckr)
                have CA := Lib.hid (dcrash_calls su.dk hkr)
                obtain ⟨L', hL', cr'⟩ : ∃ L', (L' = L ∨ L' = L ++ U) ∧ Cr22 (d.crash kr) 64 L' := by
                  rcases st.crash kr with q | q
                  · exact ⟨L, .inl rfl, q⟩
                  · exact ⟨L ++ U, .inr rfl, q⟩
                have hLl : L'.length ≤ 26 * (ρ + 1) := by
                  rcases hL' with q | q
                  · rw [q]; omega
                  · rw [q, List.length_append]; omega
                replace su := Lib.hid su
                replace cr' := Lib.hid cr'
                replace hL' := Lib.hid hL'
                clear st hU
                go_wp2_with fail
                refine CA.out.mono ?_
                rintro e w5 ⟨rfl, mb5, dk5, hmb5, t5⟩
                have su5 := Lib.hid (su.out.disk dk5 (Ot.of_two t5 (.inl rfl) (.inr (.inl rfl))) (.inr hmb5))
                have OP := Lib.hid (su5.out.reopen)
                rw [cr'.out.recs (by omega)] at OP
                clear CA su dk5 hmb5 t5 ck
                go_wp2_with fail
                refine OP.out.mono ?_
                rintro e w6 ⟨g6, D6, c6, rfl, su6⟩
                obtain ⟨R6, jk6⟩ := su6.jk
                have AL := Lib.hid (lall_calls jk6 (by omega) (fun j hj => Nat.le_trans (cr'.out.sh j hj) (by decide)))
                replace su6 := Lib.hid su6
                clear OP su5 jk6
                go_wp2_with fail
                refine AL.out.mono ?_
                rintro e w7 ⟨Dg, cg, rfl, og, x7⟩
                have su7 := su6.out.ext x7
                obtain ⟨Rq, sq⟩ := su7.sure
                obtain ⟨Ru, uq⟩ := su7.und
                have sg := Lib.hid (su6.out.got og x7)
                have rg := Lib.hid og.rw
                have SR := sameRows_calls og.rw sq.rw
                obtain ⟨b1, hb1⟩ : ∃ b, b = decide (L' = L) := ⟨_, rfl⟩
                obtain ⟨b2, hb2⟩ : ∃ b, b = decide (L' = [] ++ L ++ U) := ⟨_, rfl⟩
                have BB : Hid (b1 = true ∨ b2 = true) := by
                  rcases hL'.out with q | q
                  · left; rw [hb1]; exact decide_eq_true q
                  · right; rw [hb2]; exact decide_eq_true q
                rw [← hb1] at SR
                replace hb2 := Lib.hid hb2
                replace SR := Lib.hid SR
                clear hb1
                replace sq := Lib.hid sq
                replace uq := Lib.hid uq
                clear AL su6 su7 og x7
                go_wp2_with fail
                refine SR.out.mono ?_
                rintro e w8 ⟨rfl, x8⟩
                have sq8 := Lib.hid (sq.out.ext x8)
                have uq8 := Lib.hid (uq.out.ext x8)
                have sg8 := Lib.hid (sg.out.ext x8)
                have rg8 := Lib.hid (rg.out.ext x8)
                have xa : Hid (Ext w8 (w8.alloc (.cells #[] 37))) := (Ext.refl w8).alloc _
                have e8 : Hid (OwnS w8.heap.size (fun _ => False) (w8.alloc (.cells #[] 37)) (some ⟨w8.heap.size, 0, none⟩) 0 0 []) := OwnS.empty w8 (Nat.le_refl _)
                clear SR sq uq sg rg x8
                go_wp2_with (first
                  | (refine wpList_plain rfl fun K hK => ?_; refine wp_append_on (W := w8) rfl rfl rfl e8.out xa.out sq8.out (by omega) ?_; intro D9 c9 w9 o9 x9; rw [Nat.zero_add] at o9; rw [Nat.zero_add]; replace o9 := Lib.hid o9; replace x9 := Lib.hid x9; refine hK _ _ ?_)
                  | (refine wpList_plain rfl fun K hK => ?_; refine wp_append_on (W := w8) rfl rfl rfl o9.out x9.out uq8.out (by omega) ?_; intro D10 c10 w10 o10 x10; replace o10 := Lib.hid o10; replace x10 := Lib.hid x10; refine hK _ _ ?_))
                have SR2 := sameRows_calls (rg8.out.ext x10.out) o10.out.rw
                rw [← hb2.out] at SR2
                refine SR2.mono ?_
                rintro e w11 ⟨rfl, x11⟩
                have sg11 := Lib.hid (sg8.out.ext (x10.out.trans x11))
                clear o10 x10 o9 x9 e8 xa sq8 uq8 sg8 rg8 x11
                clear hb2 SR2
                cases b1 with
                | true =>
                  go_wp2_with fail
                  go_roundw
                  case rel => exact ⟨ρ + 1, g6, mb5, d.crash kr, w5.heap.size, D6, c6, _, Dg, cg, by omega, rfl, rfl, by go_num, sg11.out, cr'.out, rfl, hLl⟩
                  case measure => simp [intOf]; omega
                | false =>
                  cases b2 with
                  | true =>
                    go_wp2_with fail
                    go_roundw
                    case rel => exact ⟨ρ + 1, g6, mb5, d.crash kr, w5.heap.size, D6, c6, _, Dg, cg, by omega, rfl, rfl, by go_num, sg11.out, cr'.out, rfl, hLl⟩
                    case measure => simp [intOf]; omega
                  | false => exact absurd BB.out (by decide)
            · have l4 : decide ((k : Int) < (n : Int)) = false := decide_eq_false (by omega)
              obtain ⟨kr, hkr, ckr⟩ : ∃ kr : Nat, kr < 18446744073709551616 ∧ ([.int .u64 (k0 : Int), .int .u64 (k1 : Int)] : List Value)[ρ]? = some (.int .u64 (kr : Int)) := by
                obtain rfl | rfl : ρ = 0 ∨ ρ = 1 := by omega
                · exact ⟨k0, hk0, rfl⟩
                · exact ⟨k1, hk1, rfl⟩
              have ck := (su.ex.cell (p := ⟨r5, ρ, none⟩) kb.out.lt).trans (kb.out.cell ckr)
              have CA := Lib.hid (dcrash_calls su.dk hkr)
              obtain ⟨L', hL', cr'⟩ : ∃ L', (L' = L ∨ L' = L ++ U) ∧ Cr22 (d.crash kr) 64 L' := by
                rcases st.crash kr with q | q
                · exact ⟨L, .inl rfl, q⟩
                · exact ⟨L ++ U, .inr rfl, q⟩
              have hLl : L'.length ≤ 26 * (ρ + 1) := by
                rcases hL' with q | q
                · rw [q]; omega
                · rw [q, List.length_append]; omega
              replace su := Lib.hid su
              replace cr' := Lib.hid cr'
              replace hL' := Lib.hid hL'
              clear st hU
              go_wp2_with fail
              refine CA.out.mono ?_
              rintro e w5 ⟨rfl, mb5, dk5, hmb5, t5⟩
              have su5 := Lib.hid (su.out.disk dk5 (Ot.of_two t5 (.inl rfl) (.inr (.inl rfl))) (.inr hmb5))
              have OP := Lib.hid (su5.out.reopen)
              rw [cr'.out.recs (by omega)] at OP
              clear CA su dk5 hmb5 t5 ck
              go_wp2_with fail
              refine OP.out.mono ?_
              rintro e w6 ⟨g6, D6, c6, rfl, su6⟩
              obtain ⟨R6, jk6⟩ := su6.jk
              have AL := Lib.hid (lall_calls jk6 (by omega) (fun j hj => Nat.le_trans (cr'.out.sh j hj) (by decide)))
              replace su6 := Lib.hid su6
              clear OP su5 jk6
              go_wp2_with fail
              refine AL.out.mono ?_
              rintro e w7 ⟨Dg, cg, rfl, og, x7⟩
              have su7 := su6.out.ext x7
              obtain ⟨Rq, sq⟩ := su7.sure
              obtain ⟨Ru, uq⟩ := su7.und
              have sg := Lib.hid (su6.out.got og x7)
              have rg := Lib.hid og.rw
              have SR := sameRows_calls og.rw sq.rw
              obtain ⟨b1, hb1⟩ : ∃ b, b = decide (L' = L) := ⟨_, rfl⟩
              obtain ⟨b2, hb2⟩ : ∃ b, b = decide (L' = [] ++ L ++ U) := ⟨_, rfl⟩
              have BB : Hid (b1 = true ∨ b2 = true) := by
                rcases hL'.out with q | q
                · left; rw [hb1]; exact decide_eq_true q
                · right; rw [hb2]; exact decide_eq_true q
              rw [← hb1] at SR
              replace hb2 := Lib.hid hb2
              replace SR := Lib.hid SR
              clear hb1
              replace sq := Lib.hid sq
              replace uq := Lib.hid uq
              clear AL su6 su7 og x7
              go_wp2_with fail
              refine SR.out.mono ?_
              rintro e w8 ⟨rfl, x8⟩
              have sq8 := Lib.hid (sq.out.ext x8)
              have uq8 := Lib.hid (uq.out.ext x8)
              have sg8 := Lib.hid (sg.out.ext x8)
              have rg8 := Lib.hid (rg.out.ext x8)
              have xa : Hid (Ext w8 (w8.alloc (.cells #[] 37))) := (Ext.refl w8).alloc _
              have e8 : Hid (OwnS w8.heap.size (fun _ => False) (w8.alloc (.cells #[] 37)) (some ⟨w8.heap.size, 0, none⟩) 0 0 []) := OwnS.empty w8 (Nat.le_refl _)
              clear SR sq uq sg rg x8
              go_wp2_with (first
                | (refine wpList_plain rfl fun K hK => ?_; refine wp_append_on (W := w8) rfl rfl rfl e8.out xa.out sq8.out (by omega) ?_; intro D9 c9 w9 o9 x9; rw [Nat.zero_add] at o9; rw [Nat.zero_add]; replace o9 := Lib.hid o9; replace x9 := Lib.hid x9; refine hK _ _ ?_)
                | (refine wpList_plain rfl fun K hK => ?_; refine wp_append_on (W := w8) rfl rfl rfl o9.out x9.out uq8.out (by omega) ?_; intro D10 c10 w10 o10 x10; replace o10 := Lib.hid o10; replace x10 := Lib.hid x10; refine hK _ _ ?_))
              have SR2 := sameRows_calls (rg8.out.ext x10.out) o10.out.rw
              rw [← hb2.out] at SR2
              refine SR2.mono ?_
              rintro e w11 ⟨rfl, x11⟩
              have sg11 := Lib.hid (sg8.out.ext (x10.out.trans x11))
              clear o10 x10 o9 x9 e8 xa sq8 uq8 sg8 rg8 x11
              clear hb2 SR2
              cases b1 with
              | true =>
                go_wp2_with fail
                go_roundw
                case rel => exact ⟨ρ + 1, g6, mb5, d.crash kr, w5.heap.size, D6, c6, _, Dg, cg, by omega, rfl, rfl, by go_num, sg11.out, cr'.out, rfl, hLl⟩
                case measure => simp [intOf]; omega
              | false =>
                cases b2 with
                | true =>
                  go_wp2_with fail
                  go_roundw
                  case rel => exact ⟨ρ + 1, g6, mb5, d.crash kr, w5.heap.size, D6, c6, _, Dg, cg, by omega, rfl, rfl, by go_num, sg11.out, cr'.out, rfl, hLl⟩
                  case measure => simp [intOf]; omega
                | false => exact absurd BB.out (by decide)
        · have l3 : decide ((ρ : Int) < 2) = false := decide_eq_false (by omega)
          have F := Lib.hid (x0.out.trans su.ex)
          clear su cr hdd
          go_wp2_with fail
          go_ret
          exact ⟨rfl, F.out⟩
  · have l1 : decide ((60 : Int) < (n : Int)) = true := decide_eq_true (by omega)
    go_wp2_with fail
    go_ret
    exact ⟨rfl, F3.out⟩
end Go.Proofs.Yteaoacinhdjkeaa
