/-
  octets.Part parts bytes into the rows that were joined.
-/
import Derived.Test.YtgmolahjmciegaaPart
namespace Go.Proofs.Ytgmolahjmciegaa
open Go.ChangeShapes Go.WideShapes Go.ChangeAt Go.RowKit Go.Deep

/-- What holds when k rows are parted and q bytes are left. -/
def PartAt (w wr : World) (xs : List UInt8) (n : Nat) (x v : Value) : Prop :=
  ∃ (q cb k cc : Nat) (Ab D : Option Addr) (ys : List UInt8) (l : List (List UInt8)), x = .slice Ab q cb ∧ v = .slice D k cc ∧ Bs w Ab q cb ys ∧ OwnR w.heap.size wr D k cc l ∧ Ext w wr ∧ partL xs = (partL ys).map (l ++ ·) ∧ k + q ≤ n

theorem part_next {xs ys : List UInt8} {l : List (List UInt8)} {m : Nat} (h : partL xs = (partL ys).map (l ++ ·)) (h4 : 4 ≤ ys.length) (hm : ofLowL (ys.take 4).reverse = m) (hle : m ≤ (ys.drop 4).length) :
    partL xs = (partL ((ys.drop 4).drop m)).map ((l ++ [(ys.drop 4).take m]) ++ ·) := by
  rw [h, partL_step h4 (by omega), hm]
  cases partL ((ys.drop 4).drop m) <;> simp

theorem cell_new (w : World) (t : TypeId) (v : Value) : (w.alloc (.cells #[v] t)).cell? ⟨w.heap.size, 0, none⟩ = some v :=
  (World.rowIs_alloc w #[v] t (fun _ => v) (fun i hi => by simp at hi; subst hi; rfl)).cell (by simp)

set_option maxHeartbeats 2000000 in
theorem part_calls {A : Option Addr} {n c : Nat} {xs : List UInt8} {w : World} (h : Bs w A n c xs) (hm : n ≤ 1000000) :
    Calls Try.prog 23 #[.slice A n c] w (RetPart (partL xs) w) := by
  go_enter Try.func23, Try.ntmps23
  go_wp2
  go_loopw [0, 4] (fun x v wr => PartAt w wr xs n x v) (fun x _ _ => lenOf x)
  case atStart => exact ⟨n, c, 0, 0, A, none, xs, [], rfl, rfl, h, OwnR.nil _ _, Ext.refl w, by simp, by omega⟩
  case round =>
    obtain ⟨q, cb, k, cc, Ab, D, ys, l, rfl, rfl, hb, ho, hE, hp, hk⟩ := hrel
    have HP := Lib.hid hp
    clear hp h
    have h1 := hb.le
    have h2 := hb.cap
    have hlen := hb.len
    have HL := Lib.hid hlen
    clear hlen
    have hsz := hE.size
    rcases Nat.eq_zero_or_pos q with rfl | hq0
    · go_wp2
      go_ret2
      exact RetPart.good (by rw [HP.out, hb.zero, partL_nil]; simp) ho.rw hE
    · by_cases hq4 : q < 4
      · go_wp2
        go_ret2
        exact RetPart.bad (by rw [HP.out, partL_short (by rw [HL.out]; exact hq0) (by rw [HL.out]; exact hq4)]; rfl) hE
      · obtain ⟨m, hmm⟩ : ∃ m, Hid (ofLowL (ys.take 4).reverse = m) := ⟨_, rfl⟩
        have hof := ofHigh_calls (m := 4) ((hb.ext hE).take (show 4 ≤ q by omega)) (by omega) (by omega) (by omega)
        rw [List.take_take, Nat.min_self, hmm.out] at hof
        have HOF := Lib.hid hof
        have hm32 : m < 4294967296 := by
          have := ofLowL_lt (ys.take 4).reverse
          rw [hmm.out, List.length_reverse, List.length_take, HL.out, Nat.min_eq_left (by omega)] at this
          exact this
        have h4c : 4 ≤ cb := by omega
        clear hof
        by_cases hbig : q - 4 < m
        · go_wp2_with (first
            | (go_at_call 16; refine HOF.out.mono ?_; rintro e w1 ⟨rfl, e1⟩)
            | ((with_reducible refine wpList_cut rfl (x := .tmp 15) (lo := .const (.int .i64 4)) (k := 4) rfl rfl rfl (by omega) (by omega) (by omega) ?_); intro A4 hcut4; have hb4 := hcut4 _ _ hb; clear hcut4))
          go_ret2
          exact RetPart.bad (by rw [HP.out, partL_long (by rw [HL.out]; omega) (by rw [hmm.out, List.length_drop, HL.out]; exact hbig)]; rfl) (hE.trans e1)
        · have hmq : m ≤ q - 4 := by omega
          have hmc : m ≤ cb - 4 := by omega
          go_wp2_with (first
            | (go_at_call 16; refine HOF.out.mono ?_; rintro e w1 ⟨rfl, e1⟩)
            | ((with_reducible refine wpList_cut rfl (x := .tmp 15) (lo := .const (.int .i64 4)) (k := 4) rfl rfl rfl (by omega) (by omega) (by omega) ?_); intro A4 hcut4; have hb4 := hcut4 _ _ hb; clear hcut4)
            | (at_builtin; (with_reducible refine wpList_append_bs rfl (B := w1.heap.size) (s := .const (.slice none 0 0)) (x := .tmp 25) rfl rfl rfl (Own.nil _ _) ((hb4.take hmq).ext (hE.trans e1)) (by omega) (Nat.le_refl _) ?_); intro A5 c5 w2 ho2 hg2 hbl2; simp only [Nat.zero_add, List.nil_append] at ho2; have E2 : Ext w1 w2 := hbl2)
            | (at_builtin; (with_reducible refine wpList_append_rw rfl (B := w.heap.size) (s := .tmp 22) (x := .tmp 27) rfl rfl rfl (ho.ext ((e1.trans E2).alloc _)) (cell_new _ _ _) (ho2.bs.ext ((Ext.refl _).alloc _)) (far_of_new ho2 (ho.ext e1)) (by omega) (((hE.trans e1).trans E2).alloc _).size ?_); intro D3 c3 w3 ho3 hbl3)
            | ((with_reducible refine wpList_cut rfl (x := .tmp 29) (lo := .tmp 30) (k := m) rfl rfl rfl rfl hmq (by omega) ?_); intro A6 hcut6; have hb6 := hcut6 _ _ hb4; clear hcut6))
          go_roundw
          case rel => exact ⟨_, _, _, _, A6, D3, _, _, rfl, rfl, hb6, ho3, (((hE.trans e1).trans E2).alloc _).trans' hbl3, part_next HP.out (by rw [HL.out]; omega) hmm.out (by rw [List.length_drop, HL.out]; exact hmq), by omega⟩
          case measure => simp [lenOf]; omega
end Go.Proofs.Ytgmolahjmciegaa
