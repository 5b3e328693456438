/-
  The document's Part.
-/
import Derived.Test.YtgmolahjmciegaaPartW
namespace Go.Proofs.Ytgmolahjmciegaa
open Go.ChangeShapes Go.WideShapes Go.ChangeAt Go.RowKit Go.Deep

/-- 's[k:h]'. -/
theorem wpList_cut2 {w : World} {ops : Array Oper} {rest : List Oper} {o : Oper} {a : Act} {Q : Exit → Act → World → Prop} (hgd : o.guard = none) {x lo hi : Operand} {A : Option Addr} {n c k h : Nat} {kd kd' : IntKind} {z : Int}
    (ho : o.op = .slice 22 x (some lo) (some hi) none) (hx : a.eval x = .slice A n c) (hl : a.eval lo = .int kd (k : Int)) (hh : a.eval hi = .int kd' z) (hz : z = (h : Int)) (hk : k ≤ h) (hhn : h ≤ n) (hnc : n ≤ c)
    (hK : ∀ A', (∀ w0 xs, Bs w0 A n c xs → Bs w0 A' (h - k) (c - k) ((xs.take h).drop k)) → wpList Try.prog ops Q rest (a.put o.dst (.slice A' (h - k) (c - k))) w) : wpList Try.prog ops Q (o :: rest) a w := by
  refine wpList_plain hgd fun K hK' => ?_
  have hop : (execOp a.eval o).run Try.prog w = .ok (.value (.slice (if c = k then A else A.map (·.add k)) (h - k) (c - k))) w := by
    obtain ⟨dst, op, ty, pos, af, gd⟩ := o
    simp only at ho
    subst ho hz
    obtain ⟨i, hi', hsz⟩ := Option.map_eq_some_iff.1 size8
    have q1 : (k : Int) ≤ (h : Int) := by omega
    have q2 : (h : Int) ≤ (c : Int) := by omega
    simp only [execOp, hx, hl, hh, Option.map, Instr.sliceAt]
    go_simp
    cases A <;> rfl
  unfold Oper.wp
  rw [hop]
  exact hK' _ _ (hK _ (fun w0 xs hb => (hb.take hhn).cut hk))

theorem Own.empty (w : World) (B : Nat) (hB : B ≤ w.heap.size) : Own B (w.alloc (.cells #[] 5)) (some ⟨w.heap.size, 0, none⟩) 0 0 [] :=
  World.ownsRow_lit (e := 5) (size := 1) w #[] 0 hB (Nat.zero_le _) rfl

set_option maxHeartbeats 2000000 in
theorem refPart_calls {A : Option Addr} {n c : Nat} {xs : List UInt8} {w : World} (h : Bs w A n c xs) (hm : n ≤ 1000000) :
    Calls Try.prog 24 #[.slice A n c] w (RetPart (partL xs) w) := by
  go_enter Try.func24, Try.ntmps24
  go_wp2
  go_loopw [0, 4] (fun x v wr => PartAt w wr xs n x v) (fun x _ _ => lenOf x)
  case atStart => exact ⟨n, c, 0, 0, A, none, xs, [], rfl, rfl, h, OwnR.nil _ _, Ext.refl w, by simp, by omega⟩
  case round =>
    obtain ⟨q, cb, k, cc, Ab, D, ys, l, rfl, rfl, hb, ho, hE, hp, hk⟩ := hrel
    have HP := Lib.hid hp
    clear hp h
    have h1 := hb.le
    have h2 := hb.cap
    have hlen := hb.len
    have HL := Lib.hid hlen
    clear hlen
    have hsz := hE.size
    rcases Nat.eq_zero_or_pos q with rfl | hq0
    · go_wp2
      go_ret2
      exact RetPart.good (by rw [HP.out, hb.zero, partL_nil]; simp) ho.rw hE
    · by_cases hq4 : q < 4
      · go_wp2
        go_ret2
        exact RetPart.bad (by rw [HP.out, partL_short (by rw [HL.out]; exact hq0) (by rw [HL.out]; exact hq4)]; rfl) hE
      · obtain ⟨m, hmm⟩ : ∃ m, Hid (ofLowL (ys.take 4).reverse = m) := ⟨_, rfl⟩
        have hof := refOfHigh_calls (m := 4) ((hb.ext hE).take (show 4 ≤ q by omega)) (by omega) (by omega) (.inl rfl)
        rw [List.take_take, Nat.min_self, hmm.out] at hof
        have HOF := Lib.hid hof
        have hm32 : m < 4294967296 := by
          have := ofLowL_lt (ys.take 4).reverse
          rw [hmm.out, List.length_reverse, List.length_take, HL.out, Nat.min_eq_left (by omega)] at this
          exact this
        have h4c : 4 ≤ cb := by omega
        have h4d : decide ((q : Int) < 4) = false := by simp; omega
        clear hof
        by_cases hbig : q - 4 < m
        · go_wp2_with (first
            | (go_at_call 17; refine HOF.out.mono ?_; rintro e w1 ⟨rfl, rfl⟩))
          go_ret2
          exact RetPart.bad (by rw [HP.out, partL_long (by rw [HL.out]; omega) (by rw [hmm.out, List.length_drop, HL.out]; exact hbig)]; rfl) hE
        · have hmq : m ≤ q - 4 := by omega
          have hmc : m ≤ cb - 4 := by omega
          go_wp2_with (first
            | (go_at_call 17; refine HOF.out.mono ?_; rintro e w1 ⟨rfl, rfl⟩)
            | ((with_reducible refine wpList_cut2 rfl (x := .tmp 29) (lo := .const (.int .i64 4)) (hi := .tmp 30) (k := 4) (h := 4 + m) rfl rfl rfl rfl (by omega) (by omega) (by omega) (by omega) ?_); intro A4 hcut4; have hb4 := hcut4 _ _ hb; clear hcut4; simp only [Nat.add_sub_cancel_left] at hb4; simp only [Act.put, List.setIfInBounds_toArray, List.set_cons_zero, List.set_cons_succ, Nat.add_sub_cancel_left])
            | (at_builtin; (with_reducible refine wpList_append_bs rfl (B := w1.heap.size) (s := .tmp 28) (x := .tmp 31) rfl rfl rfl (Own.empty w1 _ (Nat.le_refl _)) (hb4.ext (hE.alloc _)) (by omega) (by simp) ?_); intro A5 c5 w2 ho2 hg2 hbl2; simp only [Nat.zero_add, List.nil_append] at ho2; have E2 : Ext w1 w2 := ((Ext.refl w1).alloc _).trans' hbl2)
            | (at_builtin; (with_reducible refine wpList_append_rw rfl (B := w.heap.size) (s := .tmp 27) (x := .tmp 33) rfl rfl rfl (ho.ext (E2.alloc _)) (cell_new _ _ _) (ho2.bs.ext ((Ext.refl _).alloc _)) (far_of_new ho2 ho) (by omega) ((hE.trans E2).alloc _).size ?_); intro D3 c3 w3 ho3 hbl3)
            | ((with_reducible refine wpList_cut rfl (x := .tmp 35) (lo := .tmp 36) (k := 4 + m) rfl rfl rfl (by omega) (by omega) (by omega) ?_); intro A6 hcut6; have hb6 := hcut6 _ _ hb; clear hcut6))
          go_roundw
          case rel =>
            refine ⟨_, _, _, _, A6, D3, _, _, rfl, rfl, hb6, ho3, ((hE.trans E2).alloc _).trans' hbl3, ?_, by omega⟩
            have hn := part_next HP.out (by rw [HL.out]; omega) hmm.out (by rw [List.length_drop, HL.out]; exact hmq)
            rw [List.drop_drop] at hn
            rw [List.drop_take, Nat.add_sub_cancel_left]
            exact hn
          case measure => simp [lenOf]; omega
end Go.Proofs.Ytgmolahjmciegaa
