/-
  The law MailboxOwn.
-/
import Derived.Test.YtojgmgghlkpfoaaAwake19
import Derived.Test.YtojgmgghlkpfoaaRput
namespace Go.Proofs.Ytojgmgghlkpfoaa
open Go.ChangeShapes Go.WideShapes Go.ChangeAt Go.RowKit Go.Deep
set_option maxRecDepth 100000

/-- An envelope with a body alone. -/
def own19 (body : List UInt8) : Ml := ⟨0, 0, 0, List.replicate 32 0, List.replicate 32 0, 0, 0, body, 0, 0, 0, 0, List.replicate 32 0, List.replicate 32 0⟩
theorem own19_ok {body : List UInt8} (h : body.length ≤ 500) : (own19 body).ok := ⟨⟨rfl, rfl⟩, ⟨rfl, rfl⟩, (show body.length ≤ 1000 by omega)⟩
theorem own19_put {body : List UInt8} (h : body.length ≤ 500) : pbI (own19 body) 0 0 = 1 ∧ pbE (own19 body) 0 = 0 ∧ pbM (own19 body) 0 0 = 1 ∧ ∀ A c, pbL (own19 body) A c [] 0 = [⟨(own19 body).as 1, A, c⟩] := by
  have h : pbE (own19 body) 0 = 0 := by
    have h0 : okM (own19 body) = true := by
      show okE 0 0 0 0 body.length = true
      unfold okE
      rw [show upB 0 7 = true from rfl, show okH 0 0 = true from rfl, decide_eq_true (by omega)]
      rfl
    unfold pbE
    rw [h0]
    rfl
  refine ⟨?_, h, ?_, fun A c => ?_⟩
  · unfold pbI; rw [h]; rfl
  · unfold pbM; rw [h]; rfl
  · unfold pbL; rw [show ([] : List Wm).length = 0 from rfl, h]; rfl
theorem own19_ev {body : List UInt8} {A : Option Addr} {n c : Nat} (hn : body.length = n) : Try.prog.built 35 [(4, .slice A n c)] = some (⟨own19 body, A, c⟩ : Wm).ev.toArray := by subst hn; kernel_rfl
theorem own19_st {body : List UInt8} : Try.prog.built 51 [] = some (own19 body).stm.toArray := by kernel_rfl
theorem MB.fresh {TB TM : TypeId} {B g : Nat} {w w' : World} {L : List Wm} {last : Int} (h : MB TB TM B w g L last) {p : Addr} {u : Value} (hw : w' = w.setCell p u) (hp : p.block ≠ g) (hB : p.block < B) : MB TB TM B w' g L last := h.keep fun i cs t q z => by
  rw [hw]
  refine (Below.heap_setCell _ _ _ _ ?_).trans q
  rcases z with ⟨rfl, _⟩ | ⟨z, _⟩
  · exact Ne.symm hp
  · omega
theorem Bs.into {w : World} {A : Option Addr} {n c : Nat} {xs : List UInt8} {B : Nat} (h : BsF B w A n c xs) {k : Nat} (hk : k < n) : ∃ b off, A = some ⟨b, off, none⟩ ∧ B ≤ b ∧ b < w.heap.size ∧ w.cell? ⟨b, off + k, none⟩ = some (.int .u8 (bt xs k : Int)) ∧ w.frozen? ⟨b, off + k, none⟩ = false := by
  obtain ⟨b, off, hA, hb, hc⟩ := h.1.2.2.2 (by omega)
  obtain ⟨h1, cs, h2⟩ := h.2 (by omega) _ hA
  exact ⟨b, off, hA, h1, hb, hc k hk, frozen_of_row w b _ _ _ h2⟩
set_option maxHeartbeats 8000000 in
theorem mailboxOwn_calls {w : World} {A : Option Addr} {n c : Nat} {xs : List UInt8} {z : Int} (hb : Bs w A n c xs) (hz : -9223372036854775808 ≤ z ∧ z ≤ 9223372036854775807) :
    Calls Try.prog 10 #[.slice A n c, .int .i64 z] w fun e w' => e = .returned (.bool true) ∧ Ext w w' := by
  have AW := Lib.hid (fun (W : World) => awake19_calls (w := W))
  have NW := Lib.hid (fun (W : World) => new_calls (w := W))
  have CV : Hid (∀ (W : World) A n c (ys : List UInt8), Bs W A n c ys → (convert 26 9 (.slice A n c)).run Try.prog W = .ok (.string (strL ys)) W) := fun W A n c ys h => conv_bs h
  have hl := hb.len
  have q1 := hb.le
  have q2 := hb.cap
  replace hb := Lib.hid hb
  go_enter Try.func10, Try.ntmps10
  go_wp2_with fail
  refine (AW.out _).mono ?_
  rintro e w1 ⟨rfl, x1⟩
  replace x1 := Lib.hid x1
  clear AW
  go_wp2_with fail
  by_cases h5 : n = 0 ∨ 500 < n ∨ z < 0
  · have NW0 := Lib.hid (NW.out w1)
    clear NW
    refine NW0.out.mono ?_
    rintro e w2 ⟨rfl, m2, x2⟩
    have X2 : Hid (Ext w w2) := x1.out.trans x2
    clear NW0 x1 m2 x2
    rcases Decidable.em (n = 0) with h0 | h0
    · subst h0
      go_wp2_with fail
      go_ret
      exact ⟨rfl, X2.out⟩
    · have u1 : ((n : Int) == 0) = false := by simp; omega
      rcases Decidable.em (500 < n) with h1 | h1
      · have u2 : decide ((500 : Int) < (n : Int)) = true := decide_eq_true (by omega)
        clear h5
        go_wp2_with fail
        go_ret
        exact ⟨rfl, X2.out⟩
      · have h2 : z < 0 := (h5.resolve_left h0).resolve_left h1
        have u2 : decide ((500 : Int) < (n : Int)) = false := decide_eq_false (by omega)
        clear h5
        go_wp2_with fail
        go_ret
        exact ⟨rfl, X2.out⟩
  · have h0 : 0 < n := by omega
    have h1 : n ≤ 500 := by omega
    have h2 : 0 ≤ z := by omega
    have u1 : ((n : Int) == 0) = false := by simp; omega
    have u2 : decide ((500 : Int) < (n : Int)) = false := decide_eq_false (by omega)
    have u3 : decide (z < 0) = false := decide_eq_false (by omega)
    have u4 : ¬ (n : Int) = 0 := by omega
    clear h5
    obtain ⟨k, hk, hkn⟩ : ∃ k : Nat, Int.tmod z (n : Int) = (k : Int) ∧ k < n := ⟨(Int.tmod z (n : Int)).toNat, by
      have := Int.tmod_nonneg (n : Int) h2
      omega, by
      have := Int.tmod_nonneg (n : Int) h2
      have := Int.tmod_lt_of_pos z (show (0 : Int) < (n : Int) by omega)
      omega⟩
    refine (NW.out w1).mono ?_
    rintro e w2 ⟨rfl, m2, x2⟩
    have X2 : Hid (Ext w w2) := x1.out.trans x2
    have gl : w.heap.size ≤ w1.heap.size := x1.out.size
    have glt := (m2 0).lt
    replace m2 := Lib.hid m2
    generalize w1.heap.size = g at *
    clear NW x1 x2
    have bx1 : Hid (Bs (w2.alloc (.cells #[] 5)) A n c xs) := hb.out.ext (X2.out.alloc _)
    go_upto_region 6 with (refine wpList_append_emptyF rfl rfl rfl rfl bx1.out (by omega) ?_; intro A3 c3 w3 b3 x3; simp only [Act.put, List.setIfInBounds_toArray, List.set_cons_zero, List.set_cons_succ])
    have X3 : Hid (Ext w2 w3) := ((Ext.refl w2).alloc _).trans x3
    have b3' : Hid (BsF w2.heap.size w3 A3 n c3 xs) := b3.mono (by simp)
    have m3 : Hid (MB 83 64 w3.heap.size w3 g [] 0) := (m2.out w3.heap.size).ext X3.out
    have X3' : Hid (Ext w w3) := X2.out.trans X3.out
    clear b3 x3 bx1 m2
    have PT : Hid (Calls Try.prog 24 #[.pointer (some ⟨g, 0, none⟩), .agg (⟨own19 xs, A3, c3⟩ : Wm).ev.toArray, .agg (own19 xs).stm.toArray] w3 fun e w' => e = .returned (.tuple #[.int .i64 1, .int .i64 0]) ∧ (∃ A' c', MB 83 64 w3.heap.size w' g [⟨(own19 xs).as 1, A', c'⟩] 1) ∧ Tb w.heap.size tagP w3 w') := by
      have h5 : xs.length ≤ 500 := by omega
      have := put_calls (B0 := w.heap.size) (x := ⟨own19 xs, A3, c3⟩) m3.out (own19_ok h5) (by show Bs w3 A3 xs.length c3 xs; rw [hl]; exact b3'.out.1) (by omega) (by omega) (Nat.zero_le _) (Nat.le_refl _) X3'.out.size gl
      obtain ⟨p1, p2, p3, p4⟩ := own19_put h5
      simp only [List.length_nil, p1, p2, p3, p4] at this
      exact this
    have LS : Hid (∀ W B A c, MB 83 64 B W g [⟨(own19 xs).as 1, A, c⟩] 1 → Calls Try.prog 29 #[.pointer (some ⟨g, 0, none⟩)] W fun e w' => ∃ q, e = .returned (.slice (some ⟨q, 0, none⟩) 1 1) ∧ W.heap.size ≤ q ∧ (∃ K A' c', Cb w' q 64 K ∧ K[69]? = some (.slice A' n c') ∧ BsF W.heap.size w' A' n c' xs) ∧ Ext W w') := fun W B A c h => by
      refine (list_calls h (by simp)).mono ?_
      rintro e w' ⟨q, L', h1, h2, h3, h4, h5, h6⟩
      obtain ⟨y, l2, rfl, hy, h4⟩ := List.map_eq_cons_iff.1 h4
      obtain rfl := List.map_eq_nil_iff.1 h4
      obtain ⟨oy, by_⟩ := h5 y (List.mem_cons_self ..)
      have hbd : y.d.body = xs := by rw [hy]; rfl
      refine ⟨q, h1, h2, ⟨_, y.A, y.c, h3, ?_, ?_⟩, h6⟩
      · rw [List.map_cons, List.map_nil, List.flatten_cons, List.flatten_nil, List.append_nil, y.c69 oy, hbd, hl]
      · rw [hbd, hl] at by_
        exact by_
    have BE : Hid (Try.prog.built 35 [(4, .slice A3 n c3)] = some (⟨own19 xs, A3, c3⟩ : Wm).ev.toArray) := own19_ev hl
    have BS : Hid (Try.prog.built 51 [] = some (own19 xs).stm.toArray) := own19_st
    generalize (⟨own19 xs, A3, c3⟩ : Wm).ev = EV at *
    generalize (own19 xs).stm = ST at *
    generalize (own19 xs).as 1 = d1 at *
    go_wp2_with (first
      | (refine wpList_build_as rfl _ _ rfl EV.toArray (by simp only [List.map_toArray, List.map_cons, List.map_nil]; exact BE.out) ?_; simp only [Act.put, List.setIfInBounds_toArray, List.set_cons_zero, List.set_cons_succ])
      | (refine wpList_build_as rfl _ _ rfl ST.toArray (by simp only [List.map_toArray, List.map_nil]; exact BS.out) ?_; simp only [Act.put, List.setIfInBounds_toArray, List.set_cons_zero, List.set_cons_succ]))
    refine PT.out.mono ?_
    rintro e w4 ⟨rfl, ⟨A4, c4, m4⟩, t4⟩
    have X4 : Hid (Ext w w4) := Tb.ext X3'.out t4
    have b4 : Hid (BsF w2.heap.size w4 A3 n c3 xs) := b3'.out.tb t4 rfl
    have lt3 : w2.heap.size ≤ w3.heap.size := X3.out.size
    obtain ⟨b, off, rfl, hb2, hbs, hc_, hf_⟩ := Bs.into b4.out hkn
    have hb3 : b < w3.heap.size := by obtain ⟨b', off', q, hb', _⟩ := b3'.out.1.2.2.2 h0; cases q; exact hb'
    have M5 : Hid (∀ u, MB 83 64 w3.heap.size (w4.setCell ⟨b, off + k, none⟩ u) g [⟨d1, A4, c4⟩] 1 ∧ Ext w (w4.setCell ⟨b, off + k, none⟩ u)) := fun u => ⟨m4.fresh rfl (show b ≠ g by omega) hb3, X4.out.setCell (show w.heap.size ≤ b by have := X2.out.size; omega) u⟩
    clear PT b3' X3 t4 BE BS m4 X4 b4 X3' m3
    go_upto_region 8 with fail
    refine wp_gen (fun W => MB 83 64 w3.heap.size W g [⟨d1, A4, c4⟩] 1 ∧ Ext w W) (M5.out _) ?_
    clear M5 hc_ hf_ hbs w4
    rintro w5 ⟨m5, x5⟩
    have LS5 := Lib.hid (LS.out w5 _ _ _ m5)
    replace m5 := Lib.hid m5
    replace x5 := Lib.hid x5
    go_wp2_with fail
    refine LS5.out.mono ?_
    rintro e w6 ⟨q, rfl, hq, ⟨K, A6, c6, k6, h69, b6⟩, e6⟩
    have X6 : Hid (Ext w w6) := x5.out.trans e6
    have P9 : Hid (∀ s, Ext w6 s → s.cell? ⟨q, 69, none⟩ = some (.slice A6 n c6) ∧ (convert 26 9 (.slice A6 n c6)).run Try.prog s = .ok (.string (strL xs)) s ∧ (convert 26 9 (.slice A n c)).run Try.prog s = .ok (.string (strL xs)) s) := fun s e => ⟨(k6.ext e).cell h69, CV.out _ _ _ _ _ (b6.1.ext e), CV.out _ _ _ _ _ (hb.out.ext (X6.out.trans e))⟩
    have e6' := Lib.hid e6
    have b6' := Lib.hid b6
    have ck6 := b6.1.le
    have ck6' := b6.1.cap
    have k6' := Lib.hid (k6.cell h69)
    have x5s := x5.out.size
    clear LS5 k6 h69 b6 e6 x5
    have es : Hid (((strL xs).toList == (strL xs).toList) = true) := by unfold Hid; simp
    go_upto_region 9 with fail
    refine wp_region_seq (R := Ext) Ext.refl (fun _ _ _ => Ext.trans) [0, 1, 2, 3, 4, 5, 6, 7, 8, 9, 10, 11, 12, 13, 14, 15, 16, 17] [] [(0, 58, 1024), (1, 59, 288230376151711744), (2, 60, 576460752303423488), (4, 61, 1152921504606849024), (12, 62, 3458764513820540928), (20, 63, 5764607523034234880), (36, 64, 10376293541461622784), (68, 65, 18446744073709551616), (128, 66, 36893488147419105280), (384, 67, 110680464442257309696), (640, 68, 184467440737095516160), (1152, 69, 332041393326771929088), (2176, 70, 627189298506124754944), (4224, 71, 1217485108864830406656), (128, 72, 36893488147419103234), (16512, 73, 4759259971017064316928), (41088, 74, 11842809695321532137472), (65664, 75, 18926359419625999958016)] (by kernel_rfl) (by kernel_rfl) (by kernel_rfl) rfl (by kernel_rfl) (by kernel_rfl) (fun _ _ d _ _ h => by cases d <;> exact h) ?_
    repeat (first | (refine seq_read _ (fun w' e => P9.out w' (Ext.trans (Ext.refl _).drew e)) _ (v := ?_) rfl rfl (by rfl) ?_ ?_; rotate_left; (· intro w' hF; go_simp; (try with_reducible rfl)); simp only [Act.put, List.setIfInBounds_toArray, List.set_cons_zero, List.set_cons_succ]) | (refine seq_skip _ rfl rfl (by rfl) ?_; simp only [Act.put, List.setIfInBounds_toArray, List.set_cons_zero, List.set_cons_succ]))
    refine seq_done ?_
    refine gen_q (fun W => Ext w6 W) ((Ext.refl w6).drew) ?_
    intro w7 e7
    obtain ⟨b2, off2, rfl, hb2', hbs2, hc2, hf2⟩ := Bs.into (b6'.out.ext e7) hkn
    replace e7 := Lib.hid e7
    have P11 : Hid (∀ s, Ext w7 s → s.cell? ⟨q, 69, none⟩ = some (.slice (some ⟨b2, off2, none⟩) n c6) ∧ s.cell? ⟨b2, off2 + k, none⟩ = some (.int .u8 (bt xs k : Int))) := fun s e => ⟨(P9.out s (e7.out.trans e)).1, (e.cell hbs2).trans hc2⟩
    have M8 : Hid (∀ u, MB 83 64 w3.heap.size (w7.drew.setCell ⟨b2, off2 + k, none⟩ u) g [⟨d1, A4, c4⟩] 1 ∧ Ext w (w7.drew.setCell ⟨b2, off2 + k, none⟩ u)) := fun u => ⟨m5.out.ext (Ext.setCell ((e6'.out.trans e7.out).drew) hb2' u), (X6.out.trans e7.out.drew).setCell (show w.heap.size ≤ b2 by have := x5s; omega) u⟩
    clear P9 b6' e6' e7 k6' m5
    go_upto_region 11 with fail
    refine wp_region_seqZ (R := Ext) Ext.refl (fun _ _ _ => Ext.trans) 13 [0, 1, 2, 3, 4, 5, 6, 7, 8, 9, 10, 11, 12, 13] [13] [(0, 76, 2048), (1, 77, 75557863725914323419136), (2, 78, 151115727451828646838272), (4, 79, 302231454903657293676544), (8, 80, 604462909807314587353088), (0, 81, 4), (0, 82, 256), (64, 83, 4835703278458516698824704), (160, 84, 12089258196146291747061760), (272, 85, 20551738933448695970004992), (512, 86, 38685626227668133590597632), (1024, 87, 77371252455336267181195264), (4095, 88, 20551738933448695970004992), (8191, 0, 464227514732017603087171584)] (by kernel_rfl) (by kernel_rfl) (by kernel_rfl) rfl (by kernel_rfl) (by kernel_rfl) (by kernel_rfl) (fun _ _ d _ _ h => by cases d <;> exact h) ?_
    have u7 : ¬ n = 0 := by omega
    have u6 : IntKind.i64.wrap (k : Int) = (k : Int) := IntWalk.i64_in _ (by omega)
    repeat (refine seqZ_read _ (fun w' e => P11.out w' (Ext.trans (Ext.refl _).drew e)) _ (v := ?_) rfl rfl (by rfl) ?_ ?_; rotate_left; (· intro w' hF; go_simp; (try with_reducible rfl)); simp only [Act.put, List.setIfInBounds_toArray, List.set_cons_zero, List.set_cons_succ])
    have hc2' : w7.drew.cell? ⟨b2, off2 + k, none⟩ = _ := hc2
    have hf2' : w7.drew.frozen? ⟨b2, off2 + k, none⟩ = _ := hf2
    refine seqZ_do _ rfl rfl (by rfl) (fun K hK => ?_)
    go_simp
    refine hK.out _ _ (Or.inl rfl) ?_
    clear hK K
    try simp only [Act.put, List.setIfInBounds_toArray, List.set_cons_zero, List.set_cons_succ]
    refine seqZ_done ?_
    refine gen_q (fun W => MB 83 64 w3.heap.size W g [⟨d1, A4, c4⟩] 1 ∧ Ext w W) (M8.out _) ?_
    clear M8 hc2 hf2 hc2' hf2' hbs2 P11
    rintro w8 ⟨m8, x8⟩
    have LS8 := Lib.hid (LS.out w8 _ _ _ m8)
    replace x8 := Lib.hid x8
    clear m8 LS
    go_wp2_with fail
    refine LS8.out.mono ?_
    rintro e w9 ⟨q9, rfl, hq9, ⟨K9, A9, c9, k9, h69, b9⟩, e9⟩
    have X9 : Hid (Ext w w9) := x8.out.trans e9
    have P13 : Hid (∀ s, Ext w9 s → s.cell? ⟨q9, 69, none⟩ = some (.slice A9 n c9) ∧ (convert 26 9 (.slice A9 n c9)).run Try.prog s = .ok (.string (strL xs)) s ∧ (convert 26 9 (.slice A n c)).run Try.prog s = .ok (.string (strL xs)) s) := fun s e => ⟨(k9.ext e).cell h69, CV.out _ _ _ _ _ (b9.1.ext e), CV.out _ _ _ _ _ (hb.out.ext (X9.out.trans e))⟩
    clear LS8 k9 h69 b9 e9 x8
    go_upto_region 13 with fail
    refine wp_region_seq (R := Ext) Ext.refl (fun _ _ _ => Ext.trans) [0, 1, 2, 3, 4, 5, 6, 7, 8, 9, 10, 11, 12, 13, 14, 15, 16, 17] [] [(0, 91, 64), (1, 92, 2475880078570760549798248448), (2, 93, 4951760157141521099596500992), (6, 94, 14855280471424563298789490688), (10, 95, 24758800785707605497982484480), (18, 96, 44565841414273689896368472064), (34, 97, 79228162514264337593543950336), (64, 98, 158456325028528675187087904768), (192, 99, 475368975085586025561263702016), (320, 100, 792281625142643375935439503360), (576, 101, 1426106925256758076683791106048), (1088, 102, 2693757525484987478180494311424), (2112, 103, 5229058725941446281173900722176), (64, 104, 158456325028528675187087900674), (8256, 105, 20440865928680199099134339186688), (20544, 106, 50864480334157704735055216115712), (32832, 107, 81288094739635210370976093044736), (131071, 5, 162259276829213363391578010288128)] (by kernel_rfl) (by kernel_rfl) (by kernel_rfl) rfl (by kernel_rfl) (by kernel_rfl) (fun _ _ d _ _ h => by cases d <;> exact h) ?_
    repeat (first | (refine seq_read _ (fun w' e => P13.out w' (Ext.trans (Ext.refl _).drew e)) _ (v := ?_) rfl rfl (by rfl) ?_ ?_; rotate_left; (· intro w' hF; go_simp; (try with_reducible rfl)); simp only [Act.put, List.setIfInBounds_toArray, List.set_cons_zero, List.set_cons_succ]) | (refine seq_skip _ rfl rfl (by rfl) ?_; simp only [Act.put, List.setIfInBounds_toArray, List.set_cons_zero, List.set_cons_succ]))
    refine seq_done ?_
    have XF : Hid (Ext w w9.drew) := X9.out.drew
    clear X9 P13 X6 X2
    go_wp2_with fail
    go_ret
    refine ⟨?_, XF.out⟩
    simp
end Go.Proofs.Ytojgmgghlkpfoaa
