import Derived.Test.YtojgmgghlkpfoaaPkA
import Derived.Deep.DeepCutAuto
/-
  The law MailboxPlays.
-/
namespace Go.Proofs.Ytojgmgghlkpfoaa
open Go.ChangeShapes Go.WideShapes Go.ChangeAt Go.RowKit Go.Deep
set_option maxRecDepth 100000

def tagPR (t : TypeId) : Bool := tagP t || tagR t
theorem Tb.weak {B : Nat} {S S' : TypeId → Bool} {a b : World} (h : Tb B S a b) (k : ∀ t, S t = true → S' t = true) : Tb B S' a b := ⟨h.1, h.2.1, h.2.2.1, h.2.2.2.1, fun i o hi hc => h.2.2.2.2 i o hi (hc.imp id fun q => by
  cases o with
  | cells cs t f =>
    cases z : S t
    · exact z
    · rw [show tagIn S' (.cells cs t f) = S' t from rfl, k t z] at q; cases q
  | _ => rfl)⟩
theorem Tb.p {B : Nat} {a b : World} (h : Tb B tagP a b) : Tb B tagPR a b := h.weak fun t q => by unfold tagPR; rw [q]; rfl
theorem Tb.r {B : Nat} {a b : World} (h : Tb B tagR a b) : Tb B tagPR a b := h.weak fun t q => by unfold tagPR; rw [q, Bool.or_true]
def zO19 : O19 := ⟨0, 0, ⟨⟨0, 0, 0, List.replicate 32 0, List.replicate 32 0, 0, 0, [], 0, 0, 0, 0, List.replicate 32 0, List.replicate 32 0⟩, none, 0⟩⟩
theorem op19_alloc (w : World) : (zeroValue 53).run Try.prog w = .ok (.agg zO19.C.toArray) w := by kernel_rfl
theorem box19_built : Try.prog.built 49 [] = some #[.slice none 0 0, .int .i64 0] := by kernel_rfl
set_option maxHeartbeats 16000000 in
theorem plays19_calls {w : World} {LO : List O19} {A : Option Addr} {len cap : Nat} (hl : Cs w 139 A len cap (LO.map O19.C)) (ol : ∀ o ∈ LO, o.x.d.keys ∧ Bs w o.x.A o.x.d.body.length o.x.c o.x.d.body) :
    Calls Try.prog 8 #[.slice A len cap] w fun e w' => e = .returned (.bool true) ∧ Ext w w' := by
  have AW := Lib.hid (fun (W : World) => awake19_calls (w := W))
  have NW := Lib.hid (fun (W : World) => new_calls (w := W))
  have OA := Lib.hid (fun i (hi : i < len) => o19_all hl ol hi)
  have hal1 := op19_alloc
  have RB := Lib.hid box19_built
  have ZOL : zO19.C.length = 139 := by kernel_rfl
  have q1 := hl.2.1
  have q2 : cap ≤ 9223372036854775807 := by have := q1.2; unfold maxLen at this; omega
  generalize zO19.C = ZO at *
  have S_ZO : ZO.toArray.size = 139 := by rw [List.size_toArray, ZOL]
  clear hl ol
  go_enter Try.func8, Try.ntmps8
  go_wp2_with fail
  refine (AW.out _).mono ?_
  rintro e w1 ⟨rfl, x1⟩
  replace x1 := Lib.hid x1
  clear AW
  go_wp2_with fail
  refine (NW.out w1).mono ?_
  rintro e w2 ⟨rfl, m2, x2⟩
  have X2 : Ext w w2 := x1.out.trans x2
  have gl : w.heap.size ≤ w1.heap.size := x1.out.size
  replace m2 := m2 w.heap.size
  have K5 : Hid (MB 83 64 w.heap.size (w2.alloc (.cells #[.slice none 0 0, .int .i64 0] 49)) w1.heap.size [] 0 ∧ MB 49 85 w.heap.size (w2.alloc (.cells #[.slice none 0 0, .int .i64 0] 49)) w2.heap.size [] 0 ∧ Ext w (w2.alloc (.cells #[.slice none 0 0, .int .i64 0] 49))) :=
    ⟨m2.ext ((Ext.refl _).alloc _), ⟨none, 0, 0, Cb.new w2 _ [.slice none 0 0, .int .i64 0], OwnC.nil _ _ _ _, fun x hx => by cases hx⟩, X2.alloc _⟩
  have gr2 : w.heap.size ≤ w2.heap.size := X2.size
  generalize w1.heap.size = g at *
  clear NW x1 x2 m2 X2
  go_upto_region 4 with (refine wpList_build_as rfl _ _ rfl #[.slice none 0 0, .int .i64 0] (by simp only [List.map_toArray, List.map_nil]; exact RB.out) ?_; simp only [Act.put, List.setIfInBounds_toArray, List.set_cons_zero, List.set_cons_succ])
  refine wp_gen (fun W => MB 83 64 w.heap.size W g [] 0 ∧ MB 49 85 w.heap.size W w2.heap.size [] 0 ∧ Ext w W) K5.out ?_
  generalize w2.heap.size = gr at *
  clear K5 RB w2
  rintro w6 K6
  replace K6 := Lib.hid K6
  go_wp2_with fail
  go_loopw [6] (fun v wr => ∃ (i : Nat) (L R : List Wm) (last : Int), i ≤ len ∧ i ≤ 60 ∧ v = .int .i64 (i : Int) ∧ MB 83 64 w.heap.size wr g L last ∧ MB 49 85 w.heap.size wr gr R last ∧ L.map (·.d) = R.map (·.d) ∧ L.length ≤ 8 ∧ 0 ≤ last ∧ last ≤ i ∧ Ext w wr) (fun v _ => len - (intOf v).toNat)
  case atStart => exact ⟨0, [], [], 0, Nat.zero_le _, by omega, rfl, K6.out.1, K6.out.2.1, rfl, Nat.zero_le _, Int.le_refl _, Int.le_refl _, K6.out.2.2⟩
  case round =>
    clear K6
    obtain ⟨i, L, R, last, hi, hi2, rfl, mb, rb, hd, l8, lt0, lti, xr⟩ := hrel
    by_cases hlt : i < len
    case neg =>
      obtain rfl : i = len := by omega
      clear mb rb OA hd
      replace xr := Lib.hid xr
      go_wp2_with fail
      go_ret
      exact ⟨rfl, xr.out⟩
    by_cases h60 : i < 60
    case neg =>
      have u1 : decide ((i : Int) < 60) = false := decide_eq_false (by omega)
      clear mb rb OA hd
      replace xr := Lib.hid xr
      go_wp2_with fail
      go_ret
      exact ⟨rfl, xr.out⟩
    have u1 : decide ((i : Int) < 60) = true := decide_eq_true (by omega)
    obtain ⟨b0, off, o, rfl, hok, BX, oc⟩ := OA.out i hlt
    have M0 := Lib.hid (oc wr xr)
    have L_O := O19.C_len hok
    have S_O : o.C.toArray.size = 139 := by rw [List.size_toArray, L_O]
    have O_O := one_cells o.one
    have K7 : Hid (Cb ((wr.alloc (.cells ZO.toArray 53)).setRow wr.heap.size o.C.toArray) wr.heap.size 53 o.C ∧ MB 83 64 w.heap.size ((wr.alloc (.cells ZO.toArray 53)).setRow wr.heap.size o.C.toArray) g L last ∧ MB 49 85 w.heap.size ((wr.alloc (.cells ZO.toArray 53)).setRow wr.heap.size o.C.toArray) gr R last ∧ Ext w ((wr.alloc (.cells ZO.toArray 53)).setRow wr.heap.size o.C.toArray)) :=
      ⟨(Cb.new wr _ ZO).set, mb.ext (Ext.newRow _ _ _), rb.ext (Ext.newRow _ _ _), xr.trans (Ext.newRow _ _ _)⟩
    replace BX := Lib.hid BX
    replace hd := Lib.hid hd
    have hwi : IntKind.i64.wrap ((i : Int) + 1) = (i : Int) + 1 := IntWalk.i64_in _ (by omega)
    clear oc mb rb xr
    obtain ⟨OC, hOC⟩ : ∃ OC, OC = o.C := ⟨_, rfl⟩
    rw [← hOC] at M0 L_O S_O O_O K7
    replace hOC := Lib.hid hOC
    go_upto_region 10 with (first
      | ((with_reducible refine wpList_load_mid (o := ⟨some 33, _, _, _, _, _⟩) (ty := 53) (g := b0) (off := off + i * 139) (ys := OC) ?_ rfl ?_ ?_ Try.underlying53 ?_ ?_ ?_); (· rfl); (· rfl); (· exact M0.out); (· rfl); (· rw [L_O]; rfl); simp only [Act.put, List.setIfInBounds_toArray, List.set_cons_zero, List.set_cons_succ])
      | (refine wpList_store_row rfl 53 _ _ rfl wr.heap.size OC.toArray rfl rfl 53 ZO.toArray (heap_alloc_new _ _) (by rw [S_O]; rfl) (by rw [S_O, S_ZO]) O_O ?_; simp only [Act.put]))
    refine wp_gen (fun W => Cb W wr.heap.size 53 OC ∧ MB 83 64 w.heap.size W g L last ∧ MB 49 85 w.heap.size W gr R last ∧ Ext w W) K7.out ?_
    generalize wr.heap.size = r7 at *
    clear K7 M0 wr
    rintro u ⟨k7, mb, rb, xu⟩
    rw [hOC.out] at k7
    clear hOC
    obtain ⟨od, id, x⟩ := o
    have c0 : u.cell? ⟨r7, 0, none⟩ = some (.int .i64 od) := k7.cell (O19.c0 ⟨od, id, x⟩)
    have c70 : u.cell? ⟨r7, 70, none⟩ = some (.slice x.A x.d.body.length x.c) := k7.cell (O19.c70 (o := ⟨od, id, x⟩) hok)
    have hbx := BX.out u xu
    have bx1 := hbx.le
    have bx2 := hbx.cap
    clear L_O S_O O_O hbx
    by_cases hbig : x.d.body.length ≤ 1000
    case neg =>
      have v1 : decide ((1000 : Int) < (x.d.body.length : Int)) = true := decide_eq_true (by omega)
      generalize x.d.body.length = bl at *
      replace xu := Lib.hid xu
      clear k7 mb rb OA BX hd hok
      go_wp2_with fail
      go_ret
      exact ⟨rfl, xu.out⟩
    have v1 : decide ((1000 : Int) < (x.d.body.length : Int)) = false := decide_eq_false (by omega)
    have okx : x.d.ok := hok.ok hbig
    have L_E := x.ev_len okx
    have L_S := x.d.stm_len okx
    have T7 : Hid (∀ s, Cb s r7 53 (⟨od, id, x⟩ : O19).C → s.cell? ⟨r7, 1, none⟩ = some (.int .i64 id) ∧ (∀ q v, x.ev[q]? = some v → s.cell? ⟨r7, 2 + q, none⟩ = some v) ∧ (∀ q v, x.d.stm[q]? = some v → s.cell? ⟨r7, 71 + q, none⟩ = some v)) := fun s kc =>
      ⟨kc.cell (O19.c1 ⟨od, id, x⟩), fun q v hv => kc.cell (O19.ce ⟨od, id, x⟩ q v hv), fun q v hv => kc.cell (O19.cs (o := ⟨od, id, x⟩) hok q v hv)⟩
    have PT : Hid (Calls Try.prog 24 #[.pointer (some ⟨g, 0, none⟩), .agg x.ev.toArray, .agg x.d.stm.toArray] u fun e w' => e = .returned (.tuple #[.int .i64 (pbI x.d L.length last), .int .i64 (pbE x.d L.length)]) ∧ (∃ A' c', MB 83 64 w.heap.size w' g (pbL x.d A' c' L last) (pbM x.d L.length last)) ∧ Tb w.heap.size tagP u w') :=
      put_calls (B0 := w.heap.size) mb okx (BX.out u xu) lt0 (by omega) l8 xu.size (Nat.le_refl _) gl
    have hLR : R.length = L.length := by rw [← List.length_map (f := fun x : Wm => x.d), ← hd.out, List.length_map]
    have PR : Hid (∀ W, Tb w.heap.size tagP u W → Calls Try.prog 25 #[.pointer (some ⟨gr, 0, none⟩), .agg x.ev.toArray, .agg x.d.stm.toArray] W fun e w' => e = .returned (.tuple #[.int .i64 (pbI x.d L.length last), .int .i64 (pbE x.d L.length)]) ∧ (∃ A' c', MB 49 85 w.heap.size w' gr (pbL x.d A' c' R last) (pbM x.d L.length last)) ∧ Tb w.heap.size tagR W w') := fun W t => by
      have := rput_calls (B0 := w.heap.size) (rb.tb t rfl rfl rfl) okx (BX.out W (Tb.ext xu t)) lt0 (by omega) (by omega) (Tb.ext xu t).size (Nat.le_refl _) gr2
      rwa [hLR] at this
    have AP : Hid (∀ s, Tb w.heap.size tagPR u s → MB 83 64 w.heap.size s g L last → Calls Try.prog 26 #[.pointer (some ⟨g, 0, none⟩), .int .i64 id] s fun e w' => e = .returned (.int .i64 (akE L last id)) ∧ MB 83 64 w.heap.size w' g (akL L last id) last ∧ Tb w.heap.size tagP s w') := fun s t h => (ack_calls (B0 := w.heap.size) h l8 (Tb.ext xu t).size gl).mono fun _ _ q => ⟨q.1, q.2.1, q.2.2.1⟩
    have AR : Hid (∀ s, Tb w.heap.size tagPR u s → MB 49 85 w.heap.size s gr R last → Calls Try.prog 27 #[.pointer (some ⟨gr, 0, none⟩), .int .i64 id] s fun e w' => e = .returned (.int .i64 (akE L last id)) ∧ MB 49 85 w.heap.size w' gr (akL R last id) last ∧ Tb w.heap.size tagR s w') := fun s t h => by
      have := rack_calls (B0 := w.heap.size) (id := id) h (by omega) (Tb.ext xu t).size gr2
      rw [akE_data hd.out.symm] at this
      exact this.mono fun _ _ q => ⟨q.1, q.2.1, by first | exact q.2.2 | exact q.2.2.1⟩
    have DAT := Lib.hid (fun (A A' : Option Addr) (c c' : Nat) => pbL_data (d := x.d) (A := A) (A' := A') (c := c) (c' := c') (last := last) hd.out)
    have LN8 := Lib.hid (fun (A : Option Addr) (c : Nat) => pbL_len (d := x.d) (A := A) (c := c) (last := last) l8)
    have DAK := Lib.hid (akL_data (last := last) (id := id) hd.out)
    have LAK := Lib.hid (akL_len (last := last) (id := id) (L := L))
    have PM := pbM_le (d := x.d) (k := L.length) lt0
    replace k7 := Lib.hid k7
    replace mb := Lib.hid mb
    replace rb := Lib.hid rb
    replace xu := Lib.hid xu
    clear hok okx BX OA hd hLR
    generalize (⟨od, id, x⟩ : O19).C = OCC at *
    generalize hF : (fun (A : Option Addr) (c : Nat) => pbL x.d A c L last) = F at *
    have hF' : ∀ A c, pbL x.d A c L last = F A c := fun A c => by rw [← hF]
    generalize hG : (fun (A : Option Addr) (c : Nat) => pbL x.d A c R last) = G at *
    have hG' : ∀ A c, pbL x.d A c R last = G A c := fun A c => by rw [← hG]
    simp only [hF', hG'] at PT PR DAT LN8
    clear hF hF' hG hG'
    generalize pbI x.d L.length last = pi at *
    generalize pbE x.d L.length = pe at *
    generalize pbM x.d L.length last = pm at *
    generalize akE L last id = ae at *
    generalize akL L last id = LL at *
    generalize akL R last id = RR at *
    generalize x.ev = EV at *
    generalize x.d.stm = ST at *
    generalize x.d.body.length = bl at *
    have S_E : EV.toArray.size = 69 := by rw [List.size_toArray, L_E]
    go_upto_region 12 with fail
    clear c70
    go_upto_region 13 with fail
    obtain ⟨bo, hbo⟩ : ∃ bo, bo = (od == 0 || od == 1) := ⟨_, rfl⟩
    go_cut [47] from 20 to 95 (fun s47 wx => s47 = .bool bo ∧ wx = u)
    case first =>
      clear PT PR AP AR DAT LN8 DAK LAK T7 k7 mb rb xu
      rcases Decidable.em (od = 0) with rfl | d0
      · go_wp2_with fail
        go_meet
        exact ⟨by rw [hbo]; rfl, rfl⟩
      · have v0 : (od == 0) = false := beq_eq_false_iff_ne.2 d0
        rcases Decidable.em (od = 1) with rfl | d1
        · go_wp2_with fail
          go_meet
          exact ⟨by rw [hbo]; rfl, rfl⟩
        · have v1 : (od == 1) = false := beq_eq_false_iff_ne.2 d1
          rw [v0, v1] at hbo
          replace d0 := Lib.hid d0
          replace d1 := Lib.hid d1
          go_wp2_with fail
          go_meet
          exact ⟨by rw [hbo]; rfl, rfl⟩
    case rest =>
    obtain ⟨rfl, rfl⟩ := hcut
    clear c0 hbo
    go_upto_if 47 with fail
    go_cut [8, 9, 10, 11, 12] from 20 to 95 (fun sv _ _ _ _ wx => ∃ (L R : List Wm) (last : Int), sv = .bool true ∧ MB 83 64 w.heap.size wx g L last ∧ MB 49 85 w.heap.size wx gr R last ∧ L.map (·.d) = R.map (·.d) ∧ L.length ≤ 8 ∧ 0 ≤ last ∧ last ≤ i + 1 ∧ Ext w wx)
    case first =>
      have SK : Hid (∀ s, Tb w.heap.size tagPR wc s → s.cell? ⟨r7, 1, none⟩ = some (.int .i64 id)) := fun s e => (T7.out s (e.cb k7.out rfl)).1
      rcases bo with _ | _
      rotate_left
      · obtain ⟨_, t2, t3⟩ := T7.out wc k7.out
        replace t2 := Lib.hid t2
        replace t3 := Lib.hid t3
        have R7 : Hid (∀ s, Tb w.heap.size tagP wc s → (∀ q v, EV[q]? = some v → s.cell? ⟨r7, 2 + q, none⟩ = some v) ∧ (∀ q v, ST[q]? = some v → s.cell? ⟨r7, 71 + q, none⟩ = some v)) := fun s e => (T7.out s (e.cb k7.out rfl)).2
        clear SK T7 AP AR DAK LAK k7
        skip
        (
          go_wp2_with (first
            | ((with_reducible refine wpList_load_mid (o := ⟨some 51, _, _, _, _, _⟩) (ty := 35) (g := r7) (off := 2) (ys := EV) ?_ rfl ?_ ?_ Try.underlying35 ?_ ?_ ?_); (· rfl); (· rfl); (· exact t2.out); (· rfl); (· rw [L_E]; rfl); simp only [Act.put, List.setIfInBounds_toArray, List.set_cons_zero, List.set_cons_succ])
            | ((with_reducible refine wpList_load_mid (o := ⟨some 53, _, _, _, _, _⟩) (ty := 51) (g := r7) (off := 71) (ys := ST) ?_ rfl ?_ ?_ Try.underlying51 ?_ ?_ ?_); (· rfl); (· rfl); (· exact t3.out); (· rfl); (· rw [L_S]; rfl); simp only [Act.put, List.setIfInBounds_toArray, List.set_cons_zero, List.set_cons_succ]))
          refine PT.out.mono ?_
          rintro e w8 ⟨rfl, ⟨A8, c8, m8⟩, t8⟩
          have PR8 := Lib.hid (PR.out w8 t8)
          obtain ⟨t4, t5⟩ := R7.out w8 t8
          replace t4 := Lib.hid t4
          replace t5 := Lib.hid t5
          replace m8 := Lib.hid m8
          have X8 : Hid (Ext w w8) := Tb.ext xu.out t8
          clear PT PR R7 t2 t3 t8 xu mb rb
          go_wp2_with (first
            | ((with_reducible refine wpList_load_mid (o := ⟨some 60, _, _, _, _, _⟩) (ty := 35) (g := r7) (off := 2) (ys := EV) ?_ rfl ?_ ?_ Try.underlying35 ?_ ?_ ?_); (· rfl); (· rfl); (· exact t4.out); (· rfl); (· rw [L_E]; rfl); simp only [Act.put, List.setIfInBounds_toArray, List.set_cons_zero, List.set_cons_succ])
            | ((with_reducible refine wpList_load_mid (o := ⟨some 62, _, _, _, _, _⟩) (ty := 51) (g := r7) (off := 71) (ys := ST) ?_ rfl ?_ ?_ Try.underlying51 ?_ ?_ ?_); (· rfl); (· rfl); (· exact t5.out); (· rfl); (· rw [L_S]; rfl); simp only [Act.put, List.setIfInBounds_toArray, List.set_cons_zero, List.set_cons_succ]))
          refine PR8.out.mono ?_
          rintro e w9 ⟨rfl, ⟨A9, c9, m9⟩, t9⟩
          have E9 : Hid (MB 83 64 w.heap.size w9 g (F A8 c8) pm ∧ MB 49 85 w.heap.size w9 gr (G A9 c9) pm ∧ (F A8 c8).map (·.d) = (G A9 c9).map (·.d) ∧ (F A8 c8).length ≤ 8 ∧ Ext w w9) := ⟨m8.out.tb t9 rfl rfl rfl, m9, DAT.out _ _ _ _, LN8.out _ _, Tb.ext X8.out t9⟩
          clear PR8 m8 m9 t9 X8 DAT LN8 t4 t5
          go_wp2_with fail
          go_meet
          exact ⟨_, _, pm, rfl, E9.out.1, E9.out.2.1, E9.out.2.2.1, E9.out.2.2.2.1, by omega, by omega, E9.out.2.2.2.2⟩)
      · have A1 := Lib.hid (AP.out wc.drew (Tb.refl _ _ wc).drew mb.out)
        have RT : Hid (∀ s, Tb w.heap.size tagP wc.drew s → MB 49 85 w.heap.size s gr R last ∧ Tb w.heap.size tagPR wc s ∧ Ext w s) := fun s e => ⟨MB.tb rb.out e rfl rfl rfl, Tb.p e, Tb.ext xu.out e⟩
        have XU : Hid (∀ s, Tb w.heap.size tagPR wc.drew s → Ext w s) := fun s e => Tb.ext xu.out e
        clear T7 PT PR DAT LN8 AP k7
        go_upto_region 17 with fail
        refine wp_region_seq (R := Tb w.heap.size tagPR) (Tb.refl _ _) (fun _ _ _ => Tb.trans) [0, 1, 2, 4, 5, 6, 3, 7, 8, 9] [3, 7] [(0, 75, 32), (0, 76, 256), (2, 77, 75557863725914323419136), (5, 78, 188894659314785808547840), (0, 79, 64), (0, 80, 256), (32, 81, 1208925819614629174706176), (88, 82, 3022314549036572936765440), (136, 83, 5137934733362173992501248), (511, 9, 9671406556917033397649408)] (by kernel_rfl) (by kernel_rfl) (by kernel_rfl) rfl (by kernel_rfl) (by kernel_rfl) (fun _ _ d _ _ h => by cases d <;> exact h) ?_
        repeat (first | (refine seq_read _ (fun w' e => SK.out w' e) _ (v := ?_) rfl rfl (by rfl) ?_ ?_; rotate_left; (· intro w' hF; go_simp; (try with_reducible rfl)); simp only [Act.put, List.setIfInBounds_toArray, List.set_cons_zero, List.set_cons_succ]) | (refine seq_skip _ rfl rfl (by rfl) ?_; simp only [Act.put, List.setIfInBounds_toArray, List.set_cons_zero, List.set_cons_succ]))
        refine seq_do _ rfl rfl (by rfl) (fun K hK => ?_)
        go_simp
        refine A1.out.mono ?_
        rintro e w8 ⟨rfl, m8, t8⟩
        refine hK.out _ _ t8.p ?_
        clear hK K
        try simp only [Act.put, List.setIfInBounds_toArray, List.set_cons_zero, List.set_cons_succ]
        obtain ⟨rb8, tu8, x8⟩ := RT.out w8 t8
        have A2 := Lib.hid (AR.out w8 tu8 rb8)
        have SK8 : Hid (∀ s, Tb w.heap.size tagPR w8 s → s.cell? ⟨r7, 1, none⟩ = some (.int .i64 id)) := fun s e => SK.out s (tu8.trans e)
        clear A1 AR RT SK XU tu8 t8 rb8
        repeat (first | (refine seq_read _ (fun w' e => SK8.out w' e) _ (v := ?_) rfl rfl (by rfl) ?_ ?_; rotate_left; (· intro w' hF; go_simp; (try with_reducible rfl)); simp only [Act.put, List.setIfInBounds_toArray, List.set_cons_zero, List.set_cons_succ]) | (refine seq_skip _ rfl rfl (by rfl) ?_; simp only [Act.put, List.setIfInBounds_toArray, List.set_cons_zero, List.set_cons_succ]))
        refine seq_do _ rfl rfl (by rfl) (fun K hK => ?_)
        go_simp
        refine A2.out.mono ?_
        rintro e w9 ⟨rfl, m9, t9⟩
        refine hK.out _ _ t9.r ?_
        clear hK K
        try simp only [Act.put, List.setIfInBounds_toArray, List.set_cons_zero, List.set_cons_succ]
        have E9 : Hid (MB 83 64 w.heap.size w9 g LL last ∧ MB 49 85 w.heap.size w9 gr RR last ∧ Ext w w9) := ⟨m8.tb t9 rfl rfl rfl, m9, Tb.ext x8 t9⟩
        clear A2 SK8 m8 m9 t9 x8
        repeat (first | (refine seq_read (fun _ => True) (fun _ _ => trivial) _ (v := ?_) rfl rfl (by rfl) ?_ ?_; rotate_left; (· intro w' hF; go_simp; (try with_reducible rfl)); simp only [Act.put, List.setIfInBounds_toArray, List.set_cons_zero, List.set_cons_succ]) | (refine seq_skip _ rfl rfl (by rfl) ?_; simp only [Act.put, List.setIfInBounds_toArray, List.set_cons_zero, List.set_cons_succ]))
        refine seq_done ?_
        go_wp2_with fail
        go_meet
        exact ⟨_, _, last, rfl, E9.out.1, E9.out.2.1, DAK.out, Nat.le_trans LAK.out l8, by omega, by omega, E9.out.2.2⟩
    case rest =>
      obtain ⟨L, R, last, rfl, mb, rb, hd, l8, lt0, lti, xr⟩ := hcut
      have LS := Lib.hid (list_calls mb l8)
      obtain ⟨RA, rn, rc, kb, ow, hbd⟩ := rb
      have hrn := MB.len ow
      have hRL : R.length = L.length := by rw [← List.length_map (f := fun x : Wm => x.d), ← hd, List.length_map]
      have KE : Hid (∀ s, Ext wc s → s.cell? ⟨gr, 0, none⟩ = some (.slice RA rn rc) ∧ MB 83 64 w.heap.size s g L last ∧ MB 49 85 w.heap.size s gr R last ∧ Cs s 138 RA rn rc (R.map Wm.C) ∧ (∀ x ∈ R, x.d.ok ∧ Bs s x.A x.d.body.length x.c x.d.body) ∧ Ext w s) := fun s e =>
        ⟨(kb.ext e).cell rfl, mb.ext e, MB.ext ⟨RA, rn, rc, kb, ow, hbd⟩ e, ow.cs.ext e, fun x hx => ⟨(hbd x hx).1, (hbd x hx).2.1.ext e⟩, xr.trans e⟩
      replace hd := Lib.hid hd
      clear kb ow hbd mb xr T7 PT PR AP AR DAT LN8 DAK LAK k7 
      go_upto_region 18 with fail
      refine wp_region_seq (R := Ext) Ext.refl (fun _ _ _ => Ext.trans) [0, 2, 3, 4, 5, 1, 6, 7] [1, 6] [(0, 84, 32), (1, 85, 19342813113834066795298816), (0, 86, 64), (4, 87, 77371252455336267181195264), (8, 88, 154742504910672534362390528), (16, 89, 309485009821345068724781056), (34, 90, 657655645870358271040159744), (127, 14, 1237940039285380274899124224)] (by kernel_rfl) (by kernel_rfl) (by kernel_rfl) rfl (by kernel_rfl) (by kernel_rfl) (fun _ _ d _ _ h => by cases d <;> exact h) ?_
      repeat (first | (refine seq_read _ (fun w' e => (KE.out w' (Ext.trans (Ext.refl _).drew e)).1) _ (v := ?_) rfl rfl (by rfl) ?_ ?_; rotate_left; (· intro w' hF; go_simp; (try with_reducible rfl)); simp only [Act.put, List.setIfInBounds_toArray, List.set_cons_zero, List.set_cons_succ]) | (refine seq_skip _ rfl rfl (by rfl) ?_; simp only [Act.put, List.setIfInBounds_toArray, List.set_cons_zero, List.set_cons_succ]))
      have X0 : Hid (Ext wc wc.drew) := (Ext.refl wc).drew
      have LS0 : Hid (Calls Try.prog 29 #[.pointer (some ⟨g, 0, none⟩)] wc.drew (ListP L wc.drew)) := list_calls (KE.out _ X0.out).2.1 l8
      clear LS
      generalize wc.drew = W at *
      refine seq_do _ rfl rfl (by rfl) (fun K hK => ?_)
      go_simp
      refine LS0.out.mono ?_
      rintro e w8 ⟨q, L', rfl, hq, kq, hL, hbL, x8⟩
      refine hK.out _ _ x8 ?_
      clear hK K
      try simp only [Act.put, List.setIfInBounds_toArray, List.set_cons_zero, List.set_cons_succ]
      have X8 : Hid (Ext wc w8) := X0.out.trans x8
      have hL' : L'.length = L.length := by rw [← List.length_map (f := fun x : Wm => x.d), hL, List.length_map]
      have SM : Hid (∀ s, Ext w8 s → Calls Try.prog 28 #[.slice (some ⟨q, 0, none⟩) L.length L.length, .slice RA rn rc] s fun e w' => e = .returned (.bool true) ∧ Ext s w') := fun s e => by
        have k := KE.out s (X8.out.trans e)
        refine same19_calls (L := L') (R := R) ⟨⟨by rw [List.length_map, hL'], fun x hx => by obtain ⟨y, hy, rfl⟩ := List.mem_map.1 hx; exact Wm.C_len (hbL y hy).1⟩, ⟨Nat.le_refl _, by unfold maxLen; omega⟩, fun _ => ⟨q, 0, rfl, (kq.ext e).lt, fun j v hv => by rw [Nat.zero_add]; exact (kq.ext e).cell hv⟩⟩ k.2.2.2.1 (fun x hx => ⟨(hbL x hx).1, (hbL x hx).2.1.ext e⟩) k.2.2.2.2.1 (hL.trans hd.out) (by omega)
      clear LS0 X0 kq hL hbL x8 hL'
      repeat (first | (refine seq_read (fun _ => True) (fun _ _ => trivial) _ (v := ?_) rfl rfl (by rfl) ?_ ?_; rotate_left; (· intro w' hF; go_simp; (try with_reducible rfl)); simp only [Act.put, List.setIfInBounds_toArray, List.set_cons_zero, List.set_cons_succ]) | (refine seq_skip _ rfl rfl (by rfl) ?_; simp only [Act.put, List.setIfInBounds_toArray, List.set_cons_zero, List.set_cons_succ]))
      refine seq_do _ rfl rfl (by rfl) (fun K hK => ?_)
      go_simp
      refine (SM.out _ (Ext.refl _)).mono ?_
      rintro e w9 ⟨rfl, x9⟩
      refine hK.out _ _ x9 ?_
      clear hK K
      try simp only [Act.put, List.setIfInBounds_toArray, List.set_cons_zero, List.set_cons_succ]
      have k9 := KE.out w9 (X8.out.trans x9)
      replace k9 := Lib.hid (And.intro k9.2.1 (And.intro k9.2.2.1 k9.2.2.2.2.2))
      clear SM KE X8 x9
      repeat (first | (refine seq_read (fun _ => True) (fun _ _ => trivial) _ (v := ?_) rfl rfl (by rfl) ?_ ?_; rotate_left; (· intro w' hF; go_simp; (try with_reducible rfl)); simp only [Act.put, List.setIfInBounds_toArray, List.set_cons_zero, List.set_cons_succ]) | (refine seq_skip _ rfl rfl (by rfl) ?_; simp only [Act.put, List.setIfInBounds_toArray, List.set_cons_zero, List.set_cons_succ]))
      refine seq_done ?_
      go_wp2_with fail
      go_round
      case rel => exact ⟨i + 1, L, R, last, by omega, by omega, by go_num, k9.out.1, k9.out.2.1, hd.out, l8, lt0, by omega, k9.out.2.2⟩
      case measure => simp [intOf]; omega
end Go.Proofs.Ytojgmgghlkpfoaa
