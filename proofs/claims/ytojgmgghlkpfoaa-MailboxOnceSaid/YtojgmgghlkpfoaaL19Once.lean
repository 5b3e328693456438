import Derived.Test.YtojgmgghlkpfoaaPkA
import Derived.Test.YtojgmgghlkpfoaaPkD
import Derived.Deep.DeepCutAuto
/-
  The law MailboxOnce.
-/
namespace Go.Proofs.Ytojgmgghlkpfoaa
open Go.ChangeShapes Go.WideShapes Go.ChangeAt Go.RowKit Go.Deep
set_option maxRecDepth 100000

def tagB (t : TypeId) : Bool := t == 4
theorem infoBl : (Try.prog.info? 4).map (fun i => (i.zero, i.size, i.bytes)) = some (some (.bool false), 1, 1) := by kernel_rfl
theorem makeB (J : Nat) (hn : J ≤ 1000) (w : World) {z : Int} (hz : z = (J : Int)) :
    (Instr.makeSlice 62 (.int .i64 z) (.int .i64 z)).run Try.prog w = .ok (.slice (some ⟨w.heap.size, 0, none⟩) J J) (w.alloc (.cells ((List.replicate J false).map Value.bool).toArray 4)) := by
  subst hz
  rw [run_make_row' _ _ _ 1 Try.underlying62 infoBl rfl .i64 .i64 J (by omega) (by omega) w]
  congr 3
  apply Array.ext'
  rw [toList_madeCells_one]
  simp
set_option maxHeartbeats 16000000 in
theorem mailboxOnce_calls {w : World} {z : Int} {A : Option Addr} {m c : Nat} {zs : List Int} (hz : -9223372036854775808 ≤ z ∧ z ≤ 9223372036854775807) (hb : Is w A m c zs) :
    Calls Try.prog 9 #[.int .i64 z, .slice A m c] w fun e w' => e = .returned (.bool true) ∧ Ext w w' := by
  have AW := Lib.hid (fun (W : World) => awake19_calls (w := W))
  have NW := Lib.hid (fun (W : World) => new_calls (w := W))
  have q1 := hb.le
  have q3 := hb.cap
  replace hb := Lib.hid hb
  go_enter Try.func9, Try.ntmps9
  go_wp2_with fail
  refine (AW.out _).mono ?_
  rintro e w1 ⟨rfl, x1⟩
  replace x1 := Lib.hid x1
  clear AW
  go_wp2_with fail
  refine (NW.out w1).mono ?_
  rintro e w2 ⟨rfl, m2, x2⟩
  have X2 : Hid (Ext w w2) := x1.out.trans x2
  have gl : w.heap.size ≤ w1.heap.size := x1.out.size
  replace m2 := Lib.hid (m2 w.heap.size)
  generalize w1.heap.size = g at *
  clear NW x1 x2
  rcases Decidable.em (z < 1) with h1 | h1
  · have u1 : decide (z < 1) = true := decide_eq_true h1
    clear m2
    go_wp2_with fail
    go_ret
    exact ⟨rfl, X2.out⟩
  have u1 : decide (z < 1) = false := decide_eq_false h1
  rcases Decidable.em (8 < z) with h8 | h8
  · have u2 : decide (8 < z) = true := decide_eq_true h8
    clear m2
    go_wp2_with fail
    go_ret
    exact ⟨rfl, X2.out⟩
  have u2 : decide (8 < z) = false := decide_eq_false h8
  rcases Decidable.em (30 < m) with h30 | h30
  · have u3 : decide ((30 : Int) < (m : Int)) = true := decide_eq_true (by omega)
    clear m2
    go_wp2_with fail
    go_ret
    exact ⟨rfl, X2.out⟩
  have u3 : decide ((30 : Int) < (m : Int)) = false := decide_eq_false (by omega)
  obtain ⟨n, rfl⟩ : ∃ n : Nat, z = (n : Int) := ⟨z.toNat, by omega⟩
  have n1 : 1 ≤ n := by omega
  have n8 : n ≤ 8 := by omega
  have m30 : m ≤ 30 := by omega
  clear h1 h8 h30
  go_wp2_with fail
  go_loopw [7] (fun v wr => ∃ (j : Nat) (L : List Wm), j ≤ n ∧ v = .int .i64 (j : Int) ∧ MB 83 64 w.heap.size wr g L (j : Int) ∧ Oi L j ∧ Ext w wr) (fun v _ => n - (intOf v).toNat)
  case atStart => exact ⟨0, [], Nat.zero_le _, rfl, m2.out, Oi.nil, X2.out⟩
  case round =>
    obtain ⟨j, L, hjn, rfl, mb, oi, xr⟩ := hrel
    clear m2 X2
    by_cases hlt : j < n
    · have gsz := xr.size
      have ES : Hid (Ext wr (wr.alloc (.cells #[.int .u8 (j : Int)] 5))) := (Ext.refl wr).alloc _
      have BB : Hid (Bs (wr.alloc (.cells #[.int .u8 (j : Int)] 5)) (some ⟨wr.heap.size, 0, none⟩) 1 1 [UInt8.ofNat j]) := Bs.one8 wr _ _ _ (by simp; omega)
      have BE := Lib.hid (once19_ev (i := j) (some ⟨wr.heap.size, 0, none⟩) rfl)
      have BS := Lib.hid (once19_st j)
      have PT : Hid (Calls Try.prog 24 #[.pointer (some ⟨g, 0, none⟩), .agg (⟨once19 j, some ⟨wr.heap.size, 0, none⟩, 1⟩ : Wm).ev.toArray, .agg (once19 j).stm.toArray] (wr.alloc (.cells #[.int .u8 (j : Int)] 5)) fun e w' => e = .returned (.tuple #[.int .i64 ((j : Int) + 1), .int .i64 0]) ∧ (∃ A' c', MB 83 64 w.heap.size w' g (L ++ [⟨(once19 j).as ((j : Int) + 1), A', c'⟩]) ((j : Int) + 1)) ∧ Tb w.heap.size tagP (wr.alloc (.cells #[.int .u8 (j : Int)] 5)) w') := by
        have := put_calls (B0 := w.heap.size) (x := ⟨once19 j, some ⟨wr.heap.size, 0, none⟩, 1⟩) (mb.ext ES.out) (once19_ok j) BB.out (by omega) (by omega) (by rw [oi.1]; omega) (Nat.le_trans gsz ES.out.size) (Nat.le_refl _) gl
        obtain ⟨p1, p2, p3, p4⟩ := once19_p oi.1 (show j < 8 by omega)
        simp only [p1, p2, p3, p4] at this
        exact this
      have OI := Lib.hid (fun A c => oi.put A c)
      have X5 : Hid (Ext w (wr.alloc (.cells #[.int .u8 (j : Int)] 5))) := xr.trans ES.out
      have hk : Int.tmod (j : Int) 8 = (j : Int) := by rw [Int.tmod_eq_emod_of_nonneg (by omega)]; omega
      have hw : IntKind.u8.wrap (j : Int) = (j : Int) := by rw [IntKind.wrap_u8]; omega
      have hj1 : IntKind.i64.wrap ((j : Int) + 1) = (j : Int) + 1 := IntWalk.i64_in _ (by omega)
      clear mb oi xr ES BB
      generalize (⟨once19 j, some ⟨wr.heap.size, 0, none⟩, 1⟩ : Wm).ev = EV at *
      generalize (once19 j).stm = ST at *
      go_wp2_with (first
        | (refine wpList_build_as rfl _ _ rfl EV.toArray (by simp only [List.map_toArray, List.map_cons, List.map_nil]; exact BE.out) ?_; simp only [Act.put, List.setIfInBounds_toArray, List.set_cons_zero, List.set_cons_succ])
        | (refine wpList_build_as rfl _ _ rfl ST.toArray (by simp only [List.map_toArray, List.map_cons, List.map_nil]; exact BS.out) ?_; simp only [Act.put, List.setIfInBounds_toArray, List.set_cons_zero, List.set_cons_succ]))
      refine PT.out.mono ?_
      rintro e w4 ⟨rfl, ⟨A4, c4, m4⟩, t4⟩
      have X4 : Hid (Ext w w4) := Tb.ext X5.out t4
      replace m4 := Lib.hid m4
      clear PT BE BS t4 X5
      go_wp2_with fail
      go_round
      case rel => exact ⟨j + 1, _, by omega, by go_num, by rw [show ((j + 1 : Nat) : Int) = (j : Int) + 1 from rfl]; exact m4.out, OI.out A4 c4, X4.out⟩
      case measure => simp [intOf]; omega
    · obtain rfl : j = n := by omega
      clear hlt
      have PT : Hid (Calls Try.prog 24 #[.pointer (some ⟨g, 0, none⟩), .agg (⟨zero19, none, 0⟩ : Wm).ev.toArray, .agg zero19.stm.toArray] wr fun e w' => ∃ (i0 fe : Int) (L2 : List Wm) (last : Int), e = .returned (.tuple #[.int .i64 i0, .int .i64 fe]) ∧ (fe == 8) = ((j : Int) == 8) ∧ MB 83 64 w.heap.size w' g L2 last ∧ Inc L2 j ∧ (∀ id : Int, 1 ≤ id → id ≤ j → hasI id L2 = true) ∧ (j : Int) ≤ last ∧ last ≤ 10 ∧ L2.length ≤ 8 ∧ Tb w.heap.size tagP wr w') := by
        refine (put_calls (B0 := w.heap.size) (x := ⟨zero19, none, 0⟩) mb zero19_ok (Bs.nil _) (by omega) (by omega) (by rw [oi.1]; omega) xr.size (Nat.le_refl _) gl).mono ?_
        rintro e w' ⟨h1, ⟨A', c', h2⟩, h3⟩
        have hE : pbE zero19 L.length = if j = 8 then 8 else 0 := by
          unfold pbE
          rw [zero19_okM, if_pos rfl, oi.1]
          by_cases q : j = 8
          · rw [if_pos q, if_neg (by omega)]
          · rw [if_neg q, if_pos (by omega)]
        refine ⟨_, _, _, _, h1, ?_, h2, ?_⟩
        · rw [hE]
          by_cases q : j = 8
          · rw [if_pos q, q]; rfl
          · rw [if_neg q]; simp; omega
        · unfold pbL pbM
          rw [hE]
          by_cases q : j = 8
          · rw [if_pos q, if_neg (by omega), if_neg (by omega)]
            exact ⟨oi.last, oi.2.2.2, by omega, by omega, by rw [oi.1]; omega, h3⟩
          · rw [if_neg q, if_pos rfl, if_pos rfl]
            exact ⟨(oi.more A' c').1, (oi.more A' c').2, by omega, by omega, by rw [List.length_append, oi.1]; simp; omega, h3⟩
      have BE := Lib.hid zero19_ev
      have BS := Lib.hid zero19_st
      replace xr := Lib.hid xr
      clear mb oi L
      generalize (⟨zero19, none, 0⟩ : Wm).ev = EV at *
      generalize zero19.stm = ST at *
      go_wp2_with (first
        | (refine wpList_build_as rfl _ _ rfl EV.toArray (by simp only [List.map_toArray, List.map_nil]; exact BE.out) ?_; simp only [Act.put, List.setIfInBounds_toArray, List.set_cons_zero, List.set_cons_succ])
        | (refine wpList_build_as rfl _ _ rfl ST.toArray (by simp only [List.map_toArray, List.map_nil]; exact BS.out) ?_; simp only [Act.put, List.setIfInBounds_toArray, List.set_cons_zero, List.set_cons_succ]))
      refine PT.out.mono ?_
      rintro e w4 ⟨i0, fe, L, last, rfl, hfe, m4, inc, has, la1, la2, l8, t4⟩
      have X4 : Hid (Ext w w4) := Tb.ext xr.out t4
      replace m4 := Lib.hid m4
      replace inc := Lib.hid inc
      replace has := Lib.hid has
      clear PT BE BS t4 xr
      obtain ⟨b8, hb8⟩ : ∃ b8, b8 = ((j : Int) == 8) := ⟨_, rfl⟩
      rw [← hb8] at hfe
      replace hb8 := hb8.symm
      obtain ⟨J, hJ⟩ : ∃ J, J = j + 2 := ⟨_, rfl⟩
      have hmk := makeB J (by omega) (z := (j : Int) + 2) w4 (by omega)
      have jJ : j + 2 ≤ J := Nat.le_of_eq hJ.symm
      have jJ2 : J ≤ 10 := by omega
      replace hJ := Lib.hid hJ
      obtain ⟨GB, hGB⟩ : ∃ GB, GB = (List.replicate J false).map Value.bool := ⟨_, rfl⟩
      rw [← hGB] at hmk
      replace hGB := Lib.hid (fun _ : Unit => hGB)
      have hw2 : IntKind.i64.wrap ((j : Int) + 2) = (j : Int) + 2 := IntWalk.i64_in _ (by omega)
      go_upto_region 15 with fail
      have K5 : Hid (Cb (w4.alloc (.cells GB.toArray 4)) w4.heap.size 4 GB ∧ MB 83 64 w.heap.size (w4.alloc (.cells GB.toArray 4)) g L last ∧ Ext w (w4.alloc (.cells GB.toArray 4))) := ⟨Cb.new _ _ _, m4.out.ext ((Ext.refl _).alloc _), X4.out.alloc _⟩
      refine wp_gen (fun W => Cb W w4.heap.size 4 GB ∧ MB 83 64 w.heap.size W g L last ∧ Ext w W) K5.out ?_
      have gsz : w.heap.size ≤ w4.heap.size := X4.out.size
      generalize w4.heap.size = gb at *
      clear K5 m4 X4 hmk w4
      rintro w5 ⟨kb, m5, x5⟩
      have LS := Lib.hid (list_calls m5 l8)
      have K5 : Hid (∀ s, Ext w5 s → Cb s gb 4 GB ∧ MB 83 64 w.heap.size s g L last ∧ Ext w s) := fun s e => ⟨kb.ext e, m5.ext e, x5.trans e⟩
      clear kb m5 x5
      go_wp2_with fail
      refine LS.out.mono ?_
      rintro e w6 ⟨q, L', rfl, _, _, _, _, x6⟩
      obtain ⟨kb, m6, X6⟩ := K5.out w6 x6
      replace kb := Lib.hid kb
      replace m6 := Lib.hid m6
      replace X6 := Lib.hid X6
      clear K5 LS x6
      have G0 := Lib.hid (Gn.start has.out)
      rw [← hJ.out] at G0
      clear has hfe hb8
      go_wp2_with fail
      go_loopw [13, 14] (fun lv v wr => ∃ (k : Nat) (L : List Wm) (G : List Bool), k ≤ m ∧ v = .int .i64 (k : Int) ∧ lv = .int .i64 (L.length : Int) ∧ MB 83 64 w.heap.size wr g L last ∧ Inc L j ∧ Gn G L j ∧ Cb wr gb 4 (G.map Value.bool) ∧ L.length ≤ 8 ∧ Ext w wr) (fun _ v _ => m - (intOf v).toNat)
      case atStart => exact ⟨0, L, _, Nat.zero_le _, rfl, rfl, m6.out, inc.out, G0.out, by rw [← hGB.out ()]; exact kb.out, l8, X6.out⟩
      case round =>
        clear m6 inc G0 kb l8 X6 hGB
        obtain ⟨k, L, G, hkm, rfl, rfl, mb, inc, gn, kb, l8, xr⟩ := hrel
        by_cases hlt : k < m
        · obtain ⟨b, off, rfl, hbb, hbc⟩ := (hb.out.ext xr).pos (by omega)
          obtain ⟨ck, bk1, bk2⟩ := hbc k hlt
          clear hbc
          generalize nat_at zs k = zk at *
          rcases Decidable.em (zk < 0) with hneg | hneg
          · have ud : decide (zk < 0) = true := decide_eq_true hneg
            replace mb := Lib.hid mb
            replace inc := Lib.hid inc
            replace gn := Lib.hid gn
            replace kb := Lib.hid kb
            replace xr := Lib.hid xr
            go_wp2_with fail
            go_round
            case rel => exact ⟨k + 1, L, G, by omega, by go_num, rfl, mb.out, inc.out, gn.out, kb.out, l8, xr.out⟩
            case measure => simp [intOf]; omega
          · have ud : decide (zk < 0) = false := decide_eq_false hneg
            obtain ⟨r, hr, hrj⟩ : ∃ r : Nat, Int.tmod zk (j : Int) = (r : Int) ∧ r < j := ⟨(Int.tmod zk (j : Int)).toNat, by
              have := Int.tmod_nonneg (j : Int) (show 0 ≤ zk by omega)
              omega, by
              have := Int.tmod_nonneg (j : Int) (show 0 ≤ zk by omega)
              have := Int.tmod_lt_of_pos zk (show (0 : Int) < (j : Int) by omega)
              omega⟩
            have u5 : ((j : Int) == 0) = false := beq_eq_false_iff_ne.2 (by omega)
            have u6 : ¬ (j : Int) = 0 := by omega
            have u7 : ¬ j = 0 := by omega
            have AK : Hid (Calls Try.prog 26 #[.pointer (some ⟨g, 0, none⟩), .int .i64 ((r : Int) + 1)] wr fun e w' => e = .returned (.int .i64 (if hasI ((r : Int) + 1) L then 0 else 5)) ∧ MB 83 64 w.heap.size w' g (dropI ((r : Int) + 1) L) last ∧ Tg w.heap.size tagP g wr w') := by
              have := ack_calls (B0 := w.heap.size) (id := (r : Int) + 1) mb l8 xr.size gl
              rwa [akE_is (by omega) (by omega), akL_in (by omega) (by omega)] at this
            have gr := gn.2 (r + 1) (by omega) (by omega)
            have GN := Lib.hid (gn.drop (i := r + 1) inc.1 (by omega) (by omega))
            have INC := Lib.hid (inc.drop ((r : Int) + 1))
            have hlen : Hid (if hasI ((r : Int) + 1) L = true then (dropI ((r : Int) + 1) L).length + 1 = L.length else (dropI ((r : Int) + 1) L).length = L.length) := by
              unfold Hid
              split
              · rename_i q
                exact dropI_len q
              · rename_i q
                rw [(dropI_none (hasI_none (by simpa using q))).1]
            obtain ⟨s, hs⟩ : ∃ s : Nat, s = r + 1 := ⟨_, rfl⟩
            have hsI : (r : Int) + 1 = (s : Int) := by omega
            rw [← hs] at gr GN
            rw [hsI] at AK INC hlen
            have sJ : s < J := by omega
            replace hs := Lib.hid hs
            replace kb := Lib.hid kb
            replace xr := Lib.hid xr
            have hjw : IntKind.i64.wrap ((r : Int) + 1) = (s : Int) := (IntWalk.i64_in _ (by omega)).trans hsI
            clear mb inc gn
            generalize hasI (s : Int) L = ha at *
            generalize dropI (s : Int) L = L2 at *
            obtain ⟨ee, hee⟩ : ∃ ee : Int, ee = (if ha = true then 0 else 5) := ⟨_, rfl⟩
            rw [← hee] at AK
            replace hee := Lib.hid hee
            go_upto_region 21 with fail
            (try rw [hsI])
            clear hjw hsI
            go_wp2_with fail
            refine AK.out.mono ?_
            rintro e w7 ⟨rfl, m7, t7⟩
            have X7 : Hid (Ext w w7) := Tb.ext xr.out t7.1
            have k7 := t7.1.cb kb.out rfl
            have cg := k7.cell (j := s) (v := .bool (!ha)) (by rw [List.getElem?_map, gr]; rfl)
            have fg := k7.frozen s
            replace m7 := Lib.hid m7
            replace k7 := Lib.hid k7
            clear AK t7 kb xr gr ck
            have l2 : L2.length ≤ 8 := by
              have := hlen.out
              split at this <;> omega
            go_upto_region 22 with fail
            go_cut [120] from 85 to 189 (fun s wx => s = .bool false ∧ wx = w7)
            case first =>
              rcases ha with _ | _
              · obtain rfl : ee = 5 := by simpa using hee.out
                go_wp2_with fail
                go_meet
                exact ⟨rfl, rfl⟩
              · obtain rfl : ee = 0 := by simpa using hee.out
                go_wp2_with fail
                go_meet
                exact ⟨rfl, rfl⟩
            case rest =>
              obtain ⟨rfl, rfl⟩ := hcut
              go_upto_if 122 with fail
              go_cut [13] from 85 to 189 (fun lv wx => lv = .int .i64 (L2.length : Int) ∧ wx = wc)
              case first =>
                have hl3 := hlen.out
                clear cg fg
                rcases ha with _ | _
                · obtain rfl : ee = 5 := by simpa using hee.out
                  have hl4 : L2.length = L.length := by simpa using hl3
                  go_wp2_with fail
                  go_meet
                  exact ⟨by rw [hl4], rfl⟩
                · obtain rfl : ee = 0 := by simpa using hee.out
                  have hl4 : L2.length + 1 = L.length := by simpa using hl3
                  have hw4 : IntKind.i64.wrap ((L.length : Int) - 1) = (L2.length : Int) := (IntWalk.i64_in _ (by omega)).trans (by omega)
                  go_wp2_with fail
                  go_meet
                  exact ⟨by first | rfl | exact congrArg (Value.int .i64) (by omega), rfl⟩
              case rest =>
                obtain ⟨rfl, rfl⟩ := hcut
                clear hee hlen
                have K8 : Hid (Cb (wc.setCell ⟨gb, s, none⟩ (.bool true)) gb 4 ((G.set s true).map Value.bool) ∧ MB 83 64 w.heap.size (wc.setCell ⟨gb, s, none⟩ (.bool true)) g L2 last ∧ Ext w (wc.setCell ⟨gb, s, none⟩ (.bool true))) := ⟨by rw [List.map_set]; exact k7.out.setCell, m7.out.tb (Tb.cell (B := w.heap.size) (S := tagB) s (.bool true) k7.out gsz rfl) rfl rfl rfl, X7.out.setCell gsz _⟩
                go_upto_region 27 with fail
                refine wp_gen (fun W => Cb W gb 4 ((G.set s true).map Value.bool) ∧ MB 83 64 w.heap.size W g L2 last ∧ Ext w W) K8.out ?_
                clear K8 cg fg k7 m7 X7
                rintro w8 ⟨k8, m8, x8⟩
                have LS := Lib.hid (list_calls m8 l2)
                have K8 : Hid (∀ s_, Ext w8 s_ → Cb s_ gb 4 ((G.set s true).map Value.bool) ∧ MB 83 64 w.heap.size s_ g L2 last ∧ Ext w s_) := fun s_ e => ⟨k8.ext e, m8.ext e, x8.trans e⟩
                clear k8 m8 x8
                go_wp2_with fail
                refine LS.out.mono ?_
                rintro e w9 ⟨q9, L9, rfl, hq9, kq, hd, hbd, x9⟩
                have ll : L9.length = L2.length := by rw [← List.length_map (f := fun x : Wm => x.d), hd, List.length_map]
                have QID : Hid (∀ i (h : i < L2.length) s, Ext w9 s → s.cell? ⟨q9, i * 138, none⟩ = some (.int .i64 L2[i].d.id) ∧ s.cell? ⟨q9, i * 138 + 73, none⟩ = some (.int .i64 L2[i].d.tm)) := fun i h s e => by
                  have h' : i < L9.length := by omega
                  have hk : L9[i].d = L2[i].d := by
                    have := congrArg (fun l => l[i]?) hd
                    simp only [List.getElem?_map, List.getElem?_eq_getElem h', List.getElem?_eq_getElem h, Option.map_some] at this
                    exact Option.some.inj this
                  have hok := (hbd L9[i] (List.getElem_mem h')).1
                  have fl : ∀ u, u < 138 → ((L9.map Wm.C).flatten)[i * 138 + u]? = (L9[i].C)[u]? := fun u hu => by
                    rw [flat_at (L := L9.map Wm.C) (s := 138) (fun x hx => by obtain ⟨y, hy, rfl⟩ := List.mem_map.1 hx; exact y.C_len (hbd y hy).1) (j := i) (i := u) (by rw [List.length_map]; exact h') hu, List.getD_eq_getElem?_getD, List.getElem?_map, List.getElem?_eq_getElem h']
                    rfl
                  refine ⟨(kq.ext e).cell ?_, (kq.ext e).cell ?_⟩
                  · have := fl 0 (by omega)
                    rw [Nat.add_zero] at this
                    rw [this, Wm.c0, hk]
                  · rw [fl 73 (by omega), Wm.c73 hok, hk]
                replace x9 := Lib.hid x9
                clear LS kq hd hbd ll hq9
                have hnn : ((L2.length : Int) != (L2.length : Int)) = false := by simp
                go_wp2_with fail
                go_loopw [18] (fun v wr => ∃ i : Nat, i ≤ L2.length ∧ v = .int .i64 (i : Int) ∧ Ext w9 wr) (fun v _ => L2.length - (intOf v).toNat)
                case atStart => exact ⟨0, Nat.zero_le _, rfl, Ext.refl _⟩
                case round =>
                  obtain ⟨i, hil, rfl, xi⟩ := hrel
                  by_cases hli : i < L2.length
                  · obtain ⟨k1, k2, k3⟩ := K8.out _ (x9.out.trans xi)
                    have hmem : L2[i] ∈ L2 := List.getElem_mem hli
                    have hin := INC.out.2 _ hmem
                    obtain ⟨y, hy⟩ : ∃ y : Nat, L2[i].d.id = (y : Int) := ⟨L2[i].d.id.toNat, by omega⟩
                    have hy1 : 1 ≤ y := by omega
                    have GY : Hid (y ≤ j → ∀ s_, Ext wr s_ → s_.cell? ⟨gb, y, none⟩ = some (.bool false)) := fun hyj s_ e => by
                      have h1 := GN.out.2 y hy1 hyj
                      rw [← hy, hasI_mem hmem] at h1
                      exact (k1.ext e).cell (by rw [List.getElem?_map, h1]; rfl)
                    have I1 : Hid (∀ s_, Ext wr s_ → s_.cell? ⟨q9, i * 138, none⟩ = some (.int .i64 (y : Int)) ∧ s_.cell? ⟨q9, i * 138 + 73, none⟩ = some (.int .i64 L2[i].d.tm)) := fun s_ e => by
                      have := QID.out i hli s_ (xi.trans e)
                      rw [hy] at this
                      exact this
                    have TM : Hid (y ≤ j → L2[i].d.tm = (y : Int) - 1) := fun h => by rw [hin.2 (by omega), hy]
                    have P1 : Hid (∀ i', i = i' + 1 → ∃ x : Nat, x < y ∧ ∀ s_, Ext wr s_ → s_.cell? ⟨q9, i' * 138, none⟩ = some (.int .i64 (x : Int))) := fun i' hi' => by
                      have hl' : i' < L2.length := by omega
                      have h1 := INC.out.2 _ (List.getElem_mem hl')
                      have h2 := List.pairwise_iff_getElem.1 INC.out.1 i' i hl' hli (by omega)
                      refine ⟨L2[i'].d.id.toNat, by omega, fun s_ e => ?_⟩
                      rw [(QID.out i' hl' s_ (xi.trans e)).1]
                      congr 2
                      omega
                    clear k1 k2 k3 hin hmem hy
                    generalize L2[i].d.tm = ty at *
                    replace xi := Lib.hid xi
                    go_upto_region 33 with fail
                    rcases Nat.lt_or_ge j y with hyj | hyj
                    · skip
                      have uj : decide ((y : Int) ≤ (j : Int)) = false := decide_eq_false (by omega)
                      have nj : ¬ y ≤ j := by omega
                      rcases Nat.eq_zero_or_pos i with h0 | h0
                      · skip
                        subst h0
                        simp only [Nat.zero_mul, Nat.zero_add] at I1
                        rw [show ((0 : Nat) : Int) = 0 from rfl]
                        refine wp_region_seq (R := Ext) Ext.refl (fun _ _ _ => Ext.trans) [0, 1, 2, 3, 4, 5, 6, 7, 8, 9, 10, 11, 12, 13, 14, 15, 16, 17, 18, 19, 20, 21, 22, 23, 24, 25, 26, 27, 28, 29, 30, 31, 32, 33, 34, 35, 36, 37, 38, 39, 40, 41, 42, 43, 44, 45, 46, 47, 48, 49] [] [(0, 141, 262144), (0, 142, 524288), (3, 143, 8362779449448983678075894352243135564742656), (4, 144, 11150372599265311570767859136324180752990208), (8, 145, 22300745198530623141535718272648361505980416), (0, 146, 2), (48, 147, 133804471191183738849214309635890169035882496), (64, 148, 178405961588244985132285746181186892047843328), (128, 149, 356811923176489970264571492362373784095694848), (128, 150, 356811923176489970264571492362373784095948800), (128, 151, 356811923176489970264571492362373784096210944), (1664, 152, 4638555001294369613439429400710859193243926528), (2176, 153, 6065802694000329494497715370160354329626673152), (4224, 154, 11774793464824169018730859247958334875157659648), (8576, 155, 23906398852824828007726289988279043534411005952), (16512, 156, 46028738089767206164129722514746218148343578624), (32896, 157, 91700664256357922357994873537130062512591470592), (65536, 158, 182687704666362864775460604089535377456991830016), (65536, 159, 182687704666362864775460604089535377456992092160), (458752, 160, 1278813932664540053428224228626747642198940975104), (589824, 161, 1644189341997265782979145436805818397112924110848), (1114112, 162, 3105690979328168701182830269522101416768856653824), (2162688, 163, 6028694253989974537590199934954667456080721739776), (65536, 164, 182687704666362864775460604089535377456991830016), (65536, 165, 182687704666362864775460604089535377456992092160), (25231360, 166, 70334766296549702938552332574471120320941753630720), (33619968, 167, 93718792493844149629811289897931648635436674318336), (67174400, 168, 187254897283021936394847119191773761893416357068800), (134283264, 169, 374327106861377509924918777779457988409375722569728), (272695296, 170, 760163539116735880330691573616556705598541913915392), (536936576, 171, 1496760721143434127595318993877055709878916011261952), (1073741952, 172, 2993155710065612352971116801974439986629133943701504), (2147549184, 173, 5986310706507378352962293074805895248510699696029696), (4294967296, 174, 11972621413014756705924586149611790497021399392583680), (12884901888, 175, 35917864239044270117773758448835371491064198176178176), (21474836480, 176, 59863107065073783529622930748058952485106996960296960), (34359738368, 177, 95780971304118053647396689196894323976171195136737280), (34359738368, 178, 95780971304118053647396689196894323976171195136999424), (171798691840, 179, 478904856520590268236983445984471619880855975682375680), (377957122048, 180, 1053590684345298590121363581165837563737883146501226496), (584115552256, 181, 1628276512170006912005743716347203507594910317320077312), (1133871366144, 182, 3160772053035895770364090743497512691213649439503679488), (34359738368, 183, 95780971304118053647396689196894323976171195136737280), (34359738368, 184, 95780971304118053647396689196894323976171195136999424), (13228499271680, 185, 36875673952085450654247725340804314730825910127542927360), (17626545782784, 186, 49135638279012561521114501558006788199775823105011744768), (35218731827200, 187, 98175495586721004988581606426816682075575475014887014400), (72602127171584, 188, 202385192365601447356949204273037706561649735323371962368), (140776143060992, 189, 392426612054384680550090160225825657120870407873530691584), (281479271677952, 190, 784649689544748110236179602487107913803291451957396373504)] (by kernel_rfl) (by kernel_rfl) (by kernel_rfl) rfl (by kernel_rfl) (by kernel_rfl) (fun _ _ d _ _ h => by cases d <;> exact h) ?_
                        repeat (first | (refine seq_read _ (fun w' e => I1.out w' (Ext.trans (Ext.refl _).drew e)) _ (v := ?_) rfl rfl (by rfl) ?_ ?_; rotate_left; (· intro w' hF; go_simp; (try with_reducible rfl)); simp only [Act.put, List.setIfInBounds_toArray, List.set_cons_zero, List.set_cons_succ]) | (refine seq_skip _ rfl rfl (by rfl) ?_; simp only [Act.put, List.setIfInBounds_toArray, List.set_cons_zero, List.set_cons_succ]))
                        refine seq_done ?_
                        have X2 : Hid (Ext w9 wr.drew) := xi.out.drew
                        clear I1 xi GY TM P1
                        go_wp2_with fail
                        go_round
                        case rel => exact ⟨1, by omega, by first | rfl | go_num, X2.out⟩
                        case measure => simp [intOf]; omega
                      · skip
                        have u0 : decide ((0 : Int) < (i : Int)) = true := decide_eq_true (by omega)
                        obtain ⟨i', hi'⟩ : ∃ i', i = i' + 1 := ⟨i - 1, by omega⟩
                        obtain ⟨x, hxy, hx⟩ := P1.out i' hi'
                        have wi : IntKind.i64.wrap ((i : Int) - 1) = (i' : Int) := (IntWalk.i64_in _ (by omega)).trans (by omega)
                        have il : i' < L2.length := by omega
                        have ux : decide ((y : Int) ≤ (x : Int)) = false := decide_eq_false (by omega)
                        replace hi' := Lib.hid hi'
                        replace hx := Lib.hid hx
                        refine wp_region_seq (R := Ext) Ext.refl (fun _ _ _ => Ext.trans) [0, 1, 2, 3, 4, 5, 6, 7, 8, 9, 10, 11, 12, 13, 14, 15, 16, 17, 18, 19, 20, 21, 22, 23, 24, 25, 26, 27, 28, 29, 30, 31, 32, 33, 34, 35, 36, 37, 38, 39, 40, 41, 42, 43, 44, 45, 46, 47, 48, 49] [] [(0, 141, 262144), (0, 142, 524288), (3, 143, 8362779449448983678075894352243135564742656), (4, 144, 11150372599265311570767859136324180752990208), (8, 145, 22300745198530623141535718272648361505980416), (0, 146, 2), (48, 147, 133804471191183738849214309635890169035882496), (64, 148, 178405961588244985132285746181186892047843328), (128, 149, 356811923176489970264571492362373784095694848), (128, 150, 356811923176489970264571492362373784095948800), (128, 151, 356811923176489970264571492362373784096210944), (1664, 152, 4638555001294369613439429400710859193243926528), (2176, 153, 6065802694000329494497715370160354329626673152), (4224, 154, 11774793464824169018730859247958334875157659648), (8576, 155, 23906398852824828007726289988279043534411005952), (16512, 156, 46028738089767206164129722514746218148343578624), (32896, 157, 91700664256357922357994873537130062512591470592), (65536, 158, 182687704666362864775460604089535377456991830016), (65536, 159, 182687704666362864775460604089535377456992092160), (458752, 160, 1278813932664540053428224228626747642198940975104), (589824, 161, 1644189341997265782979145436805818397112924110848), (1114112, 162, 3105690979328168701182830269522101416768856653824), (2162688, 163, 6028694253989974537590199934954667456080721739776), (65536, 164, 182687704666362864775460604089535377456991830016), (65536, 165, 182687704666362864775460604089535377456992092160), (25231360, 166, 70334766296549702938552332574471120320941753630720), (33619968, 167, 93718792493844149629811289897931648635436674318336), (67174400, 168, 187254897283021936394847119191773761893416357068800), (134283264, 169, 374327106861377509924918777779457988409375722569728), (272695296, 170, 760163539116735880330691573616556705598541913915392), (536936576, 171, 1496760721143434127595318993877055709878916011261952), (1073741952, 172, 2993155710065612352971116801974439986629133943701504), (2147549184, 173, 5986310706507378352962293074805895248510699696029696), (4294967296, 174, 11972621413014756705924586149611790497021399392583680), (12884901888, 175, 35917864239044270117773758448835371491064198176178176), (21474836480, 176, 59863107065073783529622930748058952485106996960296960), (34359738368, 177, 95780971304118053647396689196894323976171195136737280), (34359738368, 178, 95780971304118053647396689196894323976171195136999424), (171798691840, 179, 478904856520590268236983445984471619880855975682375680), (377957122048, 180, 1053590684345298590121363581165837563737883146501226496), (584115552256, 181, 1628276512170006912005743716347203507594910317320077312), (1133871366144, 182, 3160772053035895770364090743497512691213649439503679488), (34359738368, 183, 95780971304118053647396689196894323976171195136737280), (34359738368, 184, 95780971304118053647396689196894323976171195136999424), (13228499271680, 185, 36875673952085450654247725340804314730825910127542927360), (17626545782784, 186, 49135638279012561521114501558006788199775823105011744768), (35218731827200, 187, 98175495586721004988581606426816682075575475014887014400), (72602127171584, 188, 202385192365601447356949204273037706561649735323371962368), (140776143060992, 189, 392426612054384680550090160225825657120870407873530691584), (281479271677952, 190, 784649689544748110236179602487107913803291451957396373504)] (by kernel_rfl) (by kernel_rfl) (by kernel_rfl) rfl (by kernel_rfl) (by kernel_rfl) (fun _ _ d _ _ h => by cases d <;> exact h) ?_
                        repeat (first | (refine seq_read _ (fun w' e => And.intro (I1.out w' (Ext.trans (Ext.refl _).drew e)) (hx.out w' (Ext.trans (Ext.refl _).drew e))) _ (v := ?_) rfl rfl (by rfl) ?_ ?_; rotate_left; (· intro w' hF; go_simp; (try with_reducible rfl)); simp only [Act.put, List.setIfInBounds_toArray, List.set_cons_zero, List.set_cons_succ]) | (refine seq_skip _ rfl rfl (by rfl) ?_; simp only [Act.put, List.setIfInBounds_toArray, List.set_cons_zero, List.set_cons_succ]))
                        refine seq_done ?_
                        have X2 : Hid (Ext w9 wr.drew) := xi.out.drew
                        clear I1 xi GY TM P1
                        go_wp2_with fail
                        go_round
                        case rel => exact ⟨i + 1, by omega, by go_num, X2.out⟩
                        case measure => simp [intOf]; omega
                    · skip
                      have uj : decide ((y : Int) ≤ (j : Int)) = true := decide_eq_true (by omega)
                      have hyw : IntKind.i64.wrap ((y : Int) - 1) = (y : Int) - 1 := IntWalk.i64_in _ (by omega)
                      obtain rfl : ty = (y : Int) - 1 := TM.out hyj
                      have GY' := Lib.hid (GY.out hyj)
                      have yJ : y < J := by omega
                      rcases Nat.eq_zero_or_pos i with h0 | h0
                      · skip
                        subst h0
                        simp only [Nat.zero_mul, Nat.zero_add] at I1
                        rw [show ((0 : Nat) : Int) = 0 from rfl]
                        refine wp_region_seq (R := Ext) Ext.refl (fun _ _ _ => Ext.trans) [0, 1, 2, 3, 4, 5, 6, 7, 8, 9, 10, 11, 12, 13, 14, 15, 16, 17, 18, 19, 20, 21, 22, 23, 24, 25, 26, 27, 28, 29, 30, 31, 32, 33, 34, 35, 36, 37, 38, 39, 40, 41, 42, 43, 44, 45, 46, 47, 48, 49] [] [(0, 141, 262144), (0, 142, 524288), (3, 143, 8362779449448983678075894352243135564742656), (4, 144, 11150372599265311570767859136324180752990208), (8, 145, 22300745198530623141535718272648361505980416), (0, 146, 2), (48, 147, 133804471191183738849214309635890169035882496), (64, 148, 178405961588244985132285746181186892047843328), (128, 149, 356811923176489970264571492362373784095694848), (128, 150, 356811923176489970264571492362373784095948800), (128, 151, 356811923176489970264571492362373784096210944), (1664, 152, 4638555001294369613439429400710859193243926528), (2176, 153, 6065802694000329494497715370160354329626673152), (4224, 154, 11774793464824169018730859247958334875157659648), (8576, 155, 23906398852824828007726289988279043534411005952), (16512, 156, 46028738089767206164129722514746218148343578624), (32896, 157, 91700664256357922357994873537130062512591470592), (65536, 158, 182687704666362864775460604089535377456991830016), (65536, 159, 182687704666362864775460604089535377456992092160), (458752, 160, 1278813932664540053428224228626747642198940975104), (589824, 161, 1644189341997265782979145436805818397112924110848), (1114112, 162, 3105690979328168701182830269522101416768856653824), (2162688, 163, 6028694253989974537590199934954667456080721739776), (65536, 164, 182687704666362864775460604089535377456991830016), (65536, 165, 182687704666362864775460604089535377456992092160), (25231360, 166, 70334766296549702938552332574471120320941753630720), (33619968, 167, 93718792493844149629811289897931648635436674318336), (67174400, 168, 187254897283021936394847119191773761893416357068800), (134283264, 169, 374327106861377509924918777779457988409375722569728), (272695296, 170, 760163539116735880330691573616556705598541913915392), (536936576, 171, 1496760721143434127595318993877055709878916011261952), (1073741952, 172, 2993155710065612352971116801974439986629133943701504), (2147549184, 173, 5986310706507378352962293074805895248510699696029696), (4294967296, 174, 11972621413014756705924586149611790497021399392583680), (12884901888, 175, 35917864239044270117773758448835371491064198176178176), (21474836480, 176, 59863107065073783529622930748058952485106996960296960), (34359738368, 177, 95780971304118053647396689196894323976171195136737280), (34359738368, 178, 95780971304118053647396689196894323976171195136999424), (171798691840, 179, 478904856520590268236983445984471619880855975682375680), (377957122048, 180, 1053590684345298590121363581165837563737883146501226496), (584115552256, 181, 1628276512170006912005743716347203507594910317320077312), (1133871366144, 182, 3160772053035895770364090743497512691213649439503679488), (34359738368, 183, 95780971304118053647396689196894323976171195136737280), (34359738368, 184, 95780971304118053647396689196894323976171195136999424), (13228499271680, 185, 36875673952085450654247725340804314730825910127542927360), (17626545782784, 186, 49135638279012561521114501558006788199775823105011744768), (35218731827200, 187, 98175495586721004988581606426816682075575475014887014400), (72602127171584, 188, 202385192365601447356949204273037706561649735323371962368), (140776143060992, 189, 392426612054384680550090160225825657120870407873530691584), (281479271677952, 190, 784649689544748110236179602487107913803291451957396373504)] (by kernel_rfl) (by kernel_rfl) (by kernel_rfl) rfl (by kernel_rfl) (by kernel_rfl) (fun _ _ d _ _ h => by cases d <;> exact h) ?_
                        repeat (first | (refine seq_read _ (fun w' e => And.intro (I1.out w' (Ext.trans (Ext.refl _).drew e)) (GY'.out w' (Ext.trans (Ext.refl _).drew e))) _ (v := ?_) rfl rfl (by rfl) ?_ ?_; rotate_left; (· intro w' hF; go_simp; (try with_reducible rfl)); simp only [Act.put, List.setIfInBounds_toArray, List.set_cons_zero, List.set_cons_succ]) | (refine seq_skip _ rfl rfl (by rfl) ?_; simp only [Act.put, List.setIfInBounds_toArray, List.set_cons_zero, List.set_cons_succ]))
                        refine seq_done ?_
                        have X2 : Hid (Ext w9 wr.drew) := xi.out.drew
                        clear I1 xi GY TM P1
                        go_wp2_with fail
                        go_round
                        case rel => exact ⟨1, by omega, by first | rfl | go_num, X2.out⟩
                        case measure => simp [intOf]; omega
                      · skip
                        have u0 : decide ((0 : Int) < (i : Int)) = true := decide_eq_true (by omega)
                        obtain ⟨i', hi'⟩ : ∃ i', i = i' + 1 := ⟨i - 1, by omega⟩
                        obtain ⟨x, hxy, hx⟩ := P1.out i' hi'
                        have wi : IntKind.i64.wrap ((i : Int) - 1) = (i' : Int) := (IntWalk.i64_in _ (by omega)).trans (by omega)
                        have il : i' < L2.length := by omega
                        have ux : decide ((y : Int) ≤ (x : Int)) = false := decide_eq_false (by omega)
                        replace hi' := Lib.hid hi'
                        replace hx := Lib.hid hx
                        refine wp_region_seq (R := Ext) Ext.refl (fun _ _ _ => Ext.trans) [0, 1, 2, 3, 4, 5, 6, 7, 8, 9, 10, 11, 12, 13, 14, 15, 16, 17, 18, 19, 20, 21, 22, 23, 24, 25, 26, 27, 28, 29, 30, 31, 32, 33, 34, 35, 36, 37, 38, 39, 40, 41, 42, 43, 44, 45, 46, 47, 48, 49] [] [(0, 141, 262144), (0, 142, 524288), (3, 143, 8362779449448983678075894352243135564742656), (4, 144, 11150372599265311570767859136324180752990208), (8, 145, 22300745198530623141535718272648361505980416), (0, 146, 2), (48, 147, 133804471191183738849214309635890169035882496), (64, 148, 178405961588244985132285746181186892047843328), (128, 149, 356811923176489970264571492362373784095694848), (128, 150, 356811923176489970264571492362373784095948800), (128, 151, 356811923176489970264571492362373784096210944), (1664, 152, 4638555001294369613439429400710859193243926528), (2176, 153, 6065802694000329494497715370160354329626673152), (4224, 154, 11774793464824169018730859247958334875157659648), (8576, 155, 23906398852824828007726289988279043534411005952), (16512, 156, 46028738089767206164129722514746218148343578624), (32896, 157, 91700664256357922357994873537130062512591470592), (65536, 158, 182687704666362864775460604089535377456991830016), (65536, 159, 182687704666362864775460604089535377456992092160), (458752, 160, 1278813932664540053428224228626747642198940975104), (589824, 161, 1644189341997265782979145436805818397112924110848), (1114112, 162, 3105690979328168701182830269522101416768856653824), (2162688, 163, 6028694253989974537590199934954667456080721739776), (65536, 164, 182687704666362864775460604089535377456991830016), (65536, 165, 182687704666362864775460604089535377456992092160), (25231360, 166, 70334766296549702938552332574471120320941753630720), (33619968, 167, 93718792493844149629811289897931648635436674318336), (67174400, 168, 187254897283021936394847119191773761893416357068800), (134283264, 169, 374327106861377509924918777779457988409375722569728), (272695296, 170, 760163539116735880330691573616556705598541913915392), (536936576, 171, 1496760721143434127595318993877055709878916011261952), (1073741952, 172, 2993155710065612352971116801974439986629133943701504), (2147549184, 173, 5986310706507378352962293074805895248510699696029696), (4294967296, 174, 11972621413014756705924586149611790497021399392583680), (12884901888, 175, 35917864239044270117773758448835371491064198176178176), (21474836480, 176, 59863107065073783529622930748058952485106996960296960), (34359738368, 177, 95780971304118053647396689196894323976171195136737280), (34359738368, 178, 95780971304118053647396689196894323976171195136999424), (171798691840, 179, 478904856520590268236983445984471619880855975682375680), (377957122048, 180, 1053590684345298590121363581165837563737883146501226496), (584115552256, 181, 1628276512170006912005743716347203507594910317320077312), (1133871366144, 182, 3160772053035895770364090743497512691213649439503679488), (34359738368, 183, 95780971304118053647396689196894323976171195136737280), (34359738368, 184, 95780971304118053647396689196894323976171195136999424), (13228499271680, 185, 36875673952085450654247725340804314730825910127542927360), (17626545782784, 186, 49135638279012561521114501558006788199775823105011744768), (35218731827200, 187, 98175495586721004988581606426816682075575475014887014400), (72602127171584, 188, 202385192365601447356949204273037706561649735323371962368), (140776143060992, 189, 392426612054384680550090160225825657120870407873530691584), (281479271677952, 190, 784649689544748110236179602487107913803291451957396373504)] (by kernel_rfl) (by kernel_rfl) (by kernel_rfl) rfl (by kernel_rfl) (by kernel_rfl) (fun _ _ d _ _ h => by cases d <;> exact h) ?_
                        repeat (first | (refine seq_read _ (fun w' e => And.intro (I1.out w' (Ext.trans (Ext.refl _).drew e)) (And.intro (GY'.out w' (Ext.trans (Ext.refl _).drew e)) (hx.out w' (Ext.trans (Ext.refl _).drew e)))) _ (v := ?_) rfl rfl (by rfl) ?_ ?_; rotate_left; (· intro w' hF; go_simp; (try with_reducible rfl)); simp only [Act.put, List.setIfInBounds_toArray, List.set_cons_zero, List.set_cons_succ]) | (refine seq_skip _ rfl rfl (by rfl) ?_; simp only [Act.put, List.setIfInBounds_toArray, List.set_cons_zero, List.set_cons_succ]))
                        refine seq_done ?_
                        have X2 : Hid (Ext w9 wr.drew) := xi.out.drew
                        clear I1 xi GY TM P1
                        go_wp2_with fail
                        go_round
                        case rel => exact ⟨i + 1, by omega, by go_num, X2.out⟩
                        case measure => simp [intOf]; omega
                  · obtain rfl : i = L2.length := by omega
                    obtain ⟨k1, k2, k3⟩ := K8.out _ (x9.out.trans xi)
                    clear QID K8
                    replace k1 := Lib.hid k1
                    replace k2 := Lib.hid k2
                    replace k3 := Lib.hid k3
                    go_wp2_with fail
                    go_round
                    case rel => exact ⟨k + 1, L2, _, by omega, by go_num, rfl, k2.out, INC.out, GN.out, k1.out, l2, k3.out⟩
                    case measure => simp [intOf]; omega
        · obtain rfl : k = m := by omega
          clear mb inc gn kb
          go_wp2_with fail
          go_ret
          exact ⟨rfl, xr⟩
end Go.Proofs.Ytojgmgghlkpfoaa
