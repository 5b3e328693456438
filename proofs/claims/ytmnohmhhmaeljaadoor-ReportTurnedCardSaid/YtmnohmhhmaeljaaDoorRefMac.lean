import Derived.Test.YtmnohmhhmaeljaaDoorRefInto
import Derived.Test.YtmnohmhhmaeljaaDoorPkE
import Derived.Test.YtmnohmhhmaeljaaDoorPkI
/-
  The document's Mac (layer 2).
-/
namespace Go.Proofs.YtmnohmhhmaeljaaDoor
open Go.ChangeShapes Go.WideShapes Go.ChangeAt Go.RowKit Go.Deep

theorem Own.down {B B' : Nat} {w : World} {A : Option Addr} {n c : Nat} {xs : List UInt8} (h : Own B w A n c xs) (hB : B' ≤ B) : Own B' w A n c xs := by
  refine ⟨h.1, ?_⟩
  rcases h.2 with h | ⟨g, cap, cur, hv, hb, r⟩
  · exact .inl h
  · exact .inr ⟨g, cap, cur, hv, Nat.le_trans hB hb, r⟩
theorem Ky.setB {w : World} {g j x : Nat} {xs : List UInt8} (h : Ky w g xs) (hj : j < 32) (hx : x < 256) : Ky (w.setCell ⟨g, j, none⟩ (.int .u8 (x : Int))) g (xs.set j (UInt8.ofNat x)) := by
  refine ⟨?_, by rw [List.length_set]; exact h.2⟩
  rw [setCell_eq_setRow w g j _ _ (0, 0) _ h.1, setRow_heap w g _ _ _ _ h.1]
  congr 2
  have hl := h.2
  apply Array.ext'
  rw [Array.toList_setIfInBounds]
  apply List.ext_getElem?
  intro i
  simp only [List.getElem?_set, cellsOf_len]
  by_cases hi : i < 32
  · rw [cellsOf_get (xs := xs.set j (UInt8.ofNat x)) (by rw [List.length_set]; omega), bt_set (by omega) hx]
    by_cases e : j = i
    · subst e; simp [show j < xs.length by omega]
    · rw [if_neg e, if_neg (Ne.symm e)]
      have := cellsOf_get (xs := xs) (j := i) (by omega)
      simpa using this
  · have h1 : (cellsOf xs)[i]? = none := List.getElem?_eq_none (by rw [cellsOf_len]; omega)
    have h2 : (cellsOf (xs.set j (UInt8.ofNat x)))[i]? = none := List.getElem?_eq_none (by rw [cellsOf_len, List.length_set]; omega)
    rw [if_neg (by omega)]
    simp only [h2]
    simpa using h1

set_option maxRecDepth 100000 in
set_option maxHeartbeats 1000000 in
theorem refMac_long {A A' : Option Addr} {n c m d : Nat} {ks bs : List UInt8} {w : World} (h : Bs w A n c ks) (h' : Bs w A' m d bs) (hk : 32 < n) :
    Calls Tryd.prog 121 #[.slice A n c, .slice A' m d] w fun e w' => e = .returned (.tuple #[.agg (cellsOf (List.replicate 32 0)).toArray, .int .i64 1]) ∧ Ext w w' := by
  have h1 := h.le
  have h2 := h.cap
  have hk' : decide ((32 : Int) < (n : Int)) = true := decide_eq_true (by omega)
  have hb := zeros32_built
  have hs := zeros32_size
  have ho := zeros32_one
  have hc := Lib.hid zeros32_cells
  have hz : Hid (∀ w : World, (w.alloc (Obj.cells zeros32 24)).heap[w.heap.size]? = some (Obj.cells zeros32 24)) := fun w => heap_alloc_new _ _
  have he : Hid (∀ w : World, ∀ C, Ext w ((w.alloc (Obj.cells zeros32 24)).setRow w.heap.size C)) := fun w C => below_setRow ((Ext.refl w).alloc _) (Nat.le_refl _) _
  have hal : ∀ w, (zeroValue 24).run Tryd.prog w = .ok (.agg zeros32) w := fun _ => by kernel_rfl
  generalize zeros32 = Z at hb hs ho hc hz he hal
  go_enter Tryd.func121, Tryd.ntmps121
  go_wp2_with (first
    | refine wpList_build_as rfl _ _ rfl Z hb ?_
    | refine wpList_store_row rfl 24 _ _ rfl w.heap.size Z rfl rfl 24 _ (by with_reducible exact hz.out _) (by rw [hs]; rfl) rfl ho ?_)
  (try simp only [Exit.inBlock, Exit.then])
  refine bodyPost_ret (v := .tuple #[.agg Z, .int .i64 1]) ?_ rfl ?_
  · exact results_row_tmp rfl _ _ w.heap.size 24 Z (0, 0) _ _ rfl rfl (setRow_heap _ _ _ _ _ _ (hz.out _)) rfl rfl (by rw [hs]; rfl)
  · exact ⟨by rw [hc.out], he.out _ _⟩

set_option maxRecDepth 100000 in
set_option maxHeartbeats 4000000 in
theorem refMac_calls {A A' : Option Addr} {n c m d : Nat} {ks bs : List UInt8} {w : World} (h : Bs w A n c ks) (h' : Bs w A' m d bs) (hk : n ≤ 32) (hm : m ≤ 1000000) :
    Calls Tryd.prog 121 #[.slice A n c, .slice A' m d] w fun e w' => e = .returned (.tuple #[.agg (cellsOf (macL ks bs)).toArray, .int .i64 0]) ∧ Ext w w' := by
  have h1 := h.le
  have h2 := h.cap
  have h3 := h'.le
  have h4 := h'.cap
  have hkl := h.len
  have hml := h'.len
  have hk' : decide ((32 : Int) < (n : Int)) = false := decide_eq_false (by omega)
  have HR := ref_mac ks bs (by omega)
  rw [hkl] at HR
  have PL : (preL ks).length ≤ 64 := by unfold preL; split; · simp
                                        · rw [padL_len (by omega)]; omega
  have P0 : Hid (n = 0 → preL ks = []) := fun h0 => by unfold preL; rw [if_pos (by omega)]
  have P1 : Hid (0 < n → preL ks = padL ks ∧ (preL ks).length = 64) := fun h0 => by
    have e : preL ks = padL ks := by unfold preL; rw [if_neg (by omega)]
    exact ⟨e, by rw [e, padL_len (by omega)]⟩
  have RL : Hid (refMacL n (preL ks ++ bs) = bytesL (compL (refAt (h0L n) (preL ks ++ bs) (fullB (preL ks ++ bs).length)) (padL ((preL ks ++ bs).drop (64 * fullB (preL ks ++ bs).length))) (preL ks ++ bs).length true)) := rfl
  have XL : (preL ks ++ bs).length = (preL ks).length + m := by rw [List.length_append, hml]
  rw [HR]
  clear HR
  have ML : (refMacL n (preL ks ++ bs)).length = 32 := by rw [RL.out, bytesL_len, compL_len]
  generalize hRM : refMacL n (preL ks ++ bs) = RM at *
  replace hRM := Lib.hid hRM
  have HL := h0_len n
  have HB := Lib.hid (h0_lt hk)
  have HD : Hid (h0L n = initL.set 0 (wd initL 0 ^^^ (16842784 ^^^ n * 256))) := rfl
  generalize preL ks = ps at *
  generalize hps : ps.length = np at *
  replace h := Lib.hid h
  replace h' := Lib.hid h'
  replace hkl := Lib.hid hkl
  replace hml := Lib.hid hml
  replace hps := Lib.hid hps
  have hal : ∀ w, (zeroValue 24).run Tryd.prog w = .ok (.agg zeros32) w := fun _ => by kernel_rfl
  have hz32 := Lib.hid zeros32_cells
  generalize zeros32 = Z at *
  have k0 : Hid (Ky (w.alloc (Obj.cells Z 24)) w.heap.size (List.replicate 32 0)) := by
    have := Ky.boxed w (show (List.replicate 32 (0 : UInt8)).length = 32 from rfl)
    rw [hz32.out] at this
    exact this
  go_enter Tryd.func121, Tryd.ntmps121
  go_wp2_with fail
  refine refFirst_calls.mono ?_
  rintro e w1 ⟨rfl, r1, e1⟩
  rw [size_alloc] at r1
  have a1 : Arr w1 (w.heap.size + 1) initL := r1.arr (fun i _ => init_lt i)
  have E1 : Ext w w1 := ((Ext.refl w).alloc _).trans e1
  have kz := k0.out.ext e1
  obtain ⟨c0, f0, _⟩ := a1.2 0 (by decide)
  have x1 : bits .xor .u32 (wd initL 0 : Int) 16842784 = ((wd initL 0 ^^^ 16842784 : Nat) : Int) := u32_xor_nat _ 16842784 (init_lt 0) (by decide)
  have l1 : wd initL 0 ^^^ 16842784 < 4294967296 := xor_lt32 (init_lt 0) (by decide)
  have x2 : bits .xor .u32 ((wd initL 0 ^^^ 16842784 : Nat) : Int) ((n : Int) * 256) = ((wd initL 0 ^^^ 16842784 ^^^ n * 256 : Nat) : Int) := by
    rw [show (n : Int) * 256 = ((n * 256 : Nat) : Int) by omega]
    exact u32_xor_nat _ _ l1 (by omega)
  rw [Nat.xor_assoc] at x2
  generalize wd initL 0 ^^^ 16842784 = y1 at *
  generalize hy2 : wd initL 0 ^^^ (16842784 ^^^ n * 256) = y2 at *
  have l2 : y2 < 4294967296 := by rw [← hy2]; exact xor_lt32 (init_lt 0) (xor_lt32 (by decide) (by omega))
  replace hy2 := Lib.hid hy2
  replace a1 := Lib.hid a1
  replace E1 := Lib.hid E1
  replace kz := Lib.hid kz
  clear r1 e1 k0
  go_upto_if 29 with (fail)
  refine wp_gen (fun W => Ext w W ∧ Ky W w.heap.size (List.replicate 32 0) ∧ Arr W (w.heap.size + 1) (h0L n)) ⟨E1.out.setCell (show w.heap.size ≤ w.heap.size + 1 by omega) _, ⟨(Below.heap_setCell _ _ _ _ (show w.heap.size ≠ w.heap.size + 1 by omega)).trans kz.out.1, kz.out.2⟩, by rw [HD.out]; exact a1.out.set (by decide) l2⟩ ?_
  clear c0 f0 x1 x2 l1 l2 a1 E1 kz hy2
  clear w1
  rintro W ⟨E1, kz, a1⟩
  replace E1 := Lib.hid E1
  replace kz := Lib.hid kz
  replace a1 := Lib.hid a1
  have zW : w.heap.size + 1 + 1 ≤ W.heap.size := a1.out.1
  go_cut [7] (fun s7 wx => ∃ (D : Option Addr) (cc : Nat), s7 = .slice D np cc ∧ Own (w.heap.size + 1 + 1) wx D np cc ps ∧ Ext W wx)
  case first =>
    by_cases hn0 : n = 0
    · have d0 : decide (0 < n) = false := decide_eq_false (by omega)
      have d1 : decide ((0 : Int) < (n : Int)) = false := decide_eq_false (by omega)
      go_wp2_with fail
      go_meet
      obtain rfl : ps = [] := P0.out hn0
      obtain rfl : np = 0 := hps.out.symm
      exact ⟨none, 0, rfl, Own.nil _ _, Ext.refl _⟩
    · have d0 : decide (0 < n) = true := decide_eq_true (by omega)
      have d1 : decide ((0 : Int) < (n : Int)) = true := decide_eq_true (by omega)
      obtain ⟨q1, rfl⟩ := P1.out (by omega)
      subst q1
      go_wp2_with fail
      refine (refFilled_calls (h.out.ext E1.out) (by omega)).mono ?_
      rintro e w2 ⟨D, cc, rfl, o2, e2⟩
      replace o2 := Lib.hid (o2.down zW)
      replace e2 := Lib.hid e2
      go_wp2_with fail
      go_meet
      exact ⟨D, cc, rfl, o2.out, e2.out⟩
  case rest =>
    obtain ⟨D, cc, rfl, o2, e2⟩ := hcut
    have zc : w.heap.size + 1 + 1 ≤ wc.heap.size := Nat.le_trans zW e2.size
    have Ec := Lib.hid (E1.out.trans e2)
    replace kz := Lib.hid (kz.out.ext e2)
    replace a1 := Lib.hid (a1.out.ext e2)
    replace o2 := Lib.hid o2
    clear E1 e2 zW
    go_wp2_with (at_builtin; (with_reducible refine wpList_append_bs rfl (B := w.heap.size + 1 + 1) (s := .tmp 32) (x := .tmp 33) rfl rfl rfl o2.out (h'.out.ext Ec.out) (by omega) zc ?_); intro A5 c5 w5 o5 g5 b5; replace o5 := Lib.hid o5; replace b5 := Lib.hid b5; clear g5; go_frame)
    have E5 : Hid (Ext w w5) := Below.trans Ec.out (b5.out.mono (by omega))
    have K5 : Hid (Ky w5 w.heap.size (List.replicate 32 0)) := ⟨(b5.out.block _ (by omega)).trans kz.out.1, kz.out.2⟩
    have B5 := o5.out.bs
    have W5 : Hid (Ws w5 (some ⟨w.heap.size + 1, 0, none⟩) 8 (h0L n)) := ⟨HL, fun _ => ⟨_, 0, rfl, Nat.lt_of_lt_of_le a1.out.1 b5.out.size, fun j hj => by
      rw [Nat.zero_add, b5.out.cell (p := ⟨w.heap.size + 1, j, none⟩) (show w.heap.size + 1 < w.heap.size + 1 + 1 by omega)]
      exact (a1.out.2 j (by omega)).1⟩⟩
    have l5 := B5.le
    have m5 := B5.cap
    replace B5 := Lib.hid B5
    clear o2 Ec kz a1 zc o5 b5 P0 P1 h h'
    generalize hxs : ps ++ bs = xs at *
    replace hxs := Lib.hid hxs
    obtain ⟨M, hM⟩ : ∃ M, M = np + m := ⟨_, rfl⟩
    rw [← hM] at XL l5 B5 ⊢
    have hM1 : M ≤ 1000064 := by omega
    replace hM := Lib.hid hM
    replace XL := Lib.hid XL
    go_loopw [6, 8] (fun hv qv wr => ∃ (i q : Nat) (H : Option Addr) (c' : Nat), hv = .slice H 8 c' ∧ qv = .int .i64 (q : Int) ∧ q = 64 * i ∧ i ≤ fullB M ∧ Ws wr H 8 (refAt (h0L n) xs i) ∧ Ext w5 wr) (fun _ qv _ => M - (intOf qv).toNat)
    case atStart => exact ⟨0, 0, _, _, rfl, rfl, rfl, Nat.zero_le _, W5.out, Ext.refl _⟩
    case round =>
      obtain ⟨i, q, H, c', rfl, rfl, hq, hi, hw, he⟩ := hrel
      have qM : q ≤ M := by unfold fullB at hi; omega
      have LT := Lib.hid (refAt_lt (xs := xs) HB.out i (by omega))
      have BX := Lib.hid (B5.out.ext he)
      by_cases h64 : 64 < M - q
      · have hi1 : i + 1 ≤ fullB M := by unfold fullB; omega
        have INTO : Hid (∀ A3, Bs wr A3 64 (c5 - q) ((xs.take (q + 64)).drop q) → Calls Tryd.prog 136 #[.slice H 8 c', .slice A3 64 (c5 - q), .int .i64 ((q : Int) + 64), .bool false] wr (RetWs (refAt (h0L n) xs (i + 1)) wr)) := fun A3 b => by
          have h9 := refInto_calls (c := c') (t := q + 64) (last := false) hw b (by omega) LT.out
          rw [show ((q + 64 : Nat) : Int) = (q : Int) + 64 by omega, List.drop_take, show q + 64 - q = 64 by omega, hq, show 64 * i + 64 = 64 * (i + 1) by omega] at h9
          rw [hq]
          exact h9
        have RN := refAt_len (xs := xs) HL (i + 1)
        have q2 : q + 64 - q = 64 := by omega
        have qm : (64 : Int) < (M : Int) - (q : Int) := by omega
        replace he := Lib.hid he
        clear hw LT
        replace hq := Lib.hid hq
        go_wp2_with ((with_reducible refine wpList_cut2 rfl (x := .tmp 41) (lo := .tmp 42) (hi := .tmp 44) (k := q) (h := q + 64) rfl rfl rfl rfl (by omega) (by omega) (by omega) l5 ?_); intro A3 h3; replace h3 := Lib.hid h3; rw [q2] at h3 ⊢; go_frame)
        refine (INTO.out A3 (h3.out _ _ BX.out)).mono ?_
        rintro e w6 ⟨H6, c6, rfl, hw6, e6⟩
        rw [RN] at hw6 ⊢
        replace hw6 := Lib.hid hw6
        replace e6 := Lib.hid e6
        clear INTO h3 q2
        go_wp2_with fail
        refine ⟨⟨i + 1, q + 64, H6, c6, rfl, by go_num, by have := hq.out; omega, hi1, hw6.out, he.out.trans e6.out⟩, by simp [intOf]; omega⟩
      · have hif : i = fullB M := by unfold fullB at hi ⊢; omega
        have FILL := Lib.hid (fun A3 (b : Bs wr A3 (M - q) (c5 - q) (xs.drop q)) => refFilled_calls b (by omega))
        have INTO : Hid (∀ (W : World) A3 c3, Ext wr W → Bs W A3 64 c3 (padL (xs.drop q)) → Calls Tryd.prog 136 #[.slice H 8 c', .slice A3 64 c3, .int .i64 (M : Int), .bool true] W (RetWs (compL (refAt (h0L n) xs i) (padL (xs.drop q)) M true) W)) := fun W A3 c3 e b => refInto_calls (t := M) (last := true) (hw.ext e) b (by omega) LT.out
        have RQ : Hid (RM = bytesL (compL (refAt (h0L n) xs i) (padL (xs.drop q)) M true)) := by rw [RL.out, XL.out, ← hif, hq]; rfl
        have RN := compL_len (refAt (h0L n) xs i) (padL (xs.drop q)) M true
        have RT : Hid (Lt32 (compL (refAt (h0L n) xs i) (padL (xs.drop q)) M true)) := LT.out.comp (by omega) true
        generalize compL (refAt (h0L n) xs i) (padL (xs.drop q)) M true = V at *
        have qm : ¬ (64 : Int) < (M : Int) - (q : Int) := by omega
        replace he := Lib.hid he
        clear hw LT RL W5 hif
        replace hq := Lib.hid hq
        go_wp2_with ((with_reducible refine wpList_cut rfl (x := .tmp 52) (lo := .tmp 53) (k := q) rfl rfl rfl rfl qM l5 ?_); intro A3 h3; replace h3 := Lib.hid h3; go_frame)
        refine (FILL.out A3 (h3.out _ _ BX.out)).mono ?_
        rintro e w6 ⟨A6, c6, rfl, o6, e6⟩
        replace o6 := Lib.hid o6.bs
        replace e6 := Lib.hid e6
        clear FILL h3 BX
        go_wp2_with fail
        refine (INTO.out _ _ _ e6.out o6.out).mono ?_
        rintro e w7 ⟨H7, c7, rfl, hw7, e7⟩
        rw [RN] at hw7 ⊢
        have E7 : Hid (Ext w w7) := E5.out.trans (he.out.trans (e6.out.trans e7))
        have K7 : Hid (Ky w7 w.heap.size (List.replicate 32 0)) := K5.out.ext (he.out.trans (e6.out.trans e7))
        obtain ⟨gb, goff, rfl, hgb, hgc⟩ := hw7.2 (by omega)
        have CV := Lib.hid (fun w' (e : Ext w7 w') j (hj : j < 8) => (e.cell hgb).trans (hgc j hj))
        clear INTO o6 e6 e7 he hw7 hgc B5 E5 K5
        have kn : Hid (Ky (w7.alloc (Obj.cells Z 24)) w7.heap.size (List.replicate 32 0)) := by
          have := Ky.boxed w7 (show (List.replicate 32 (0 : UInt8)).length = 32 from rfl)
          rw [hz32.out] at this
          exact this
        have z7 : w.heap.size < w7.heap.size := heap_lt K7.out.1
        generalize hzs : List.replicate 32 (0 : UInt8) = zs at *
        have zl : zs.length = 32 := by rw [← hzs]; rfl
        clear hzs
        go_wp2_with fail
        go_loopw [10] (fun v wr => ∃ (k : Nat) (ys : List UInt8), k ≤ 32 ∧ v = .int .i64 (k : Int) ∧ ys.length = 32 ∧ (∀ j, j < k → bt ys j = bt RM j) ∧ Ext w7 wr ∧ Ky wr w7.heap.size ys) (fun v _ => 32 - (intOf v).toNat)
        case atStart => exact ⟨0, zs, Nat.zero_le _, rfl, zl, fun j hj => absurd hj (by omega), (Ext.refl _).alloc _, kn.out⟩
        case round =>
          obtain ⟨k, ys, hk, rfl, yl, hv, he, ky⟩ := hrel
          clear kn
          by_cases hlt : k < 32
          · obtain ⟨a, ha⟩ : ∃ a, a = k / 4 := ⟨_, rfl⟩
            obtain ⟨b, hb⟩ : ∃ b, b = k % 4 := ⟨_, rfl⟩
            obtain ⟨sh, hs⟩ : ∃ sh, sh = 8 * b := ⟨_, rfl⟩
            have ia : (k : Int) / 4 = (a : Int) := by omega
            have ib : (k : Int) % 4 = (b : Int) := by omega
            have is : (8 : Int) * (b : Int) = (sh : Int) := by omega
            have a8 : a < 8 := by omega
            have a8' : (a : Int) < 8 := by omega
            have b4 : (b : Int) < 4 := by omega
            have s32 : (sh : Int) ≤ 32 := by omega
            have cv := CV.out _ he a a8
            have yb : bt RM k = wd V a / 2 ^ sh % 256 := by
              rw [RQ.out, bt_bytesL (by rw [RN]; omega), ← ha, ← hb, hs, show (256 : Nat) = 2 ^ 8 from rfl, ← Nat.pow_mul]
            obtain ⟨y, hy⟩ : ∃ y, y = wd V a / 2 ^ sh := ⟨_, rfl⟩
            have q1 : Op.shift .shr .u32 (wd V a : Int) .i64 (sh : Int) = pure (.int .u32 (y : Int)) := by
              have := shift_shr .u32 .i64 (wd V a : Int) (sh : Int) (by omega) (by show (sh : Int) ≤ 32; exact s32)
              rw [this, hy]
              simp
            have y8 : IntKind.u8.wrap (y : Int) = ((y % 256 : Nat) : Int) := by rw [IntKind.wrap_u8]; omega
            have y8' : (y : Int) % 256 = ((y % 256 : Nat) : Int) := by omega
            rw [← hy] at yb
            have hlt8 : y % 256 < 256 := Nat.mod_lt _ (by decide)
            generalize y % 256 = z at *
            have g1 := ky.cell hlt
            have g2 := ky.frozen k
            have ik : (k : Int) < 32 := by omega
            replace yb := Lib.hid yb
            replace hy := Lib.hid hy
            replace ha := Lib.hid ha
            replace hb := Lib.hid hb
            replace hs := Lib.hid hs
            replace hv := Lib.hid hv
            replace he := Lib.hid he
            replace ky := Lib.hid ky
            clear hlt8
            go_wp2_with fail
            have hz : (wd V a : Int) / 2 ^ sh % 256 = (z : Int) := by
              rw [← y8', hy.out, Int.natCast_ediv, Int.natCast_pow]; rfl
            rw [hz]
            have z256 : z < 256 := by rw [← yb.out]; exact bt_lt _ _
            refine ⟨⟨k + 1, ys.set k (UInt8.ofNat z), by omega, by go_num, by rw [List.length_set]; exact yl, fun j hj => ?_, he.out.setCell (Nat.le_refl _) _, ky.out.setB hlt z256⟩, by simp [intOf]; omega⟩
            rw [bt_set (by omega) z256]
            by_cases e : j = k
            · rw [if_pos e, e]; exact yb.out.symm
            · rw [if_neg e]; exact hv.out j (by omega)
          · obtain rfl : k = 32 := by omega
            have hy : ys = RM := list_bt (by rw [yl, ML]) fun j hj => hv j (by omega)
            subst hy
            have KK := Lib.hid (K7.out.ext he)
            have EE : Hid (Ext w wr) := E7.out.trans he
            have RS : (cellsOf ys).toArray.size = 32 := by simp [cellsOf_len, yl]
            have R1 := cellsOf_one ys
            have ZS : (cellsOf zs).toArray.size = 32 := by simp [cellsOf_len, zl]
            replace ky := Lib.hid ky
            clear hv he RQ RT CV K7 E7
            go_wp2_with (first
              | (refine wpList_load_row rfl 24 _ rfl w7.heap.size rfl 24 (cellsOf ys).toArray (0, 0) _ ky.out.1 rfl rfl (by rw [RS]; rfl) ?_; go_frame)
              | refine wpList_store_row rfl 24 _ _ rfl w.heap.size (cellsOf ys).toArray rfl rfl 24 _ KK.out.1 (by rw [RS]; rfl) (by rw [RS, ZS]) R1 ?_)
            (try simp only [Exit.inBlock, Exit.then])
            refine bodyPost_ret (v := .tuple #[.agg (cellsOf ys).toArray, .int .i64 0]) ?_ rfl ?_
            · exact results_row_tmp rfl _ _ w.heap.size 24 (cellsOf ys).toArray (0, 0) _ _ rfl rfl (setRow_heap _ _ _ _ _ _ KK.out.1) rfl rfl (by rw [RS]; rfl)
            · exact ⟨rfl, below_setRow EE.out (Nat.le_refl _) _⟩
end Go.Proofs.YtmnohmhhmaeljaaDoor
