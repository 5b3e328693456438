import Derived.Test.YtbnjmmefnjoofaaDoorPkB
/-
  The law RelayBoth (written by gen20l.py).
-/
namespace Go.Proofs.YtbnjmmefnjoofaaDoor
open Go.ChangeShapes Go.WideShapes Go.ChangeAt Go.RowKit Go.Deep Go.Maps
set_option maxRecDepth 100000

/-- The accounts of the law: how many wait for each. -/
def BoI (f : Nat → Option Ac) (t : Int) (C : Nat → Nat) : Prop := ∀ n, n < 3 → ∃ a, f n = some a ∧ a.lk = linkL (n : Int) ∧ a.out = false ∧ (0 ≤ a.t ∧ a.t ≤ t ∧ 0 ≤ a.k ∧ a.k ≤ 5 ∧ 1 ≤ bkAt 5 10 a.t a.k t) ∧ a.L.length = C n ∧ C n ≤ 8
theorem bk_ten {t k now : Int} (h : t ≤ now) (t0 : 0 ≤ t) (k0 : 0 ≤ k) : 1 ≤ bkAt 5 10 t k (now + 10) := by
  unfold bkAt
  split
  · decide
  · omega
def inc (C : Nat → Nat) (j : Nat) : Nat → Nat := fun n => if n = j then C n + 1 else C n
theorem BoI.late {f : Nat → Option Ac} {t : Int} {C : Nat → Nat} (h : BoI f t C) : BoI f (t + 10) C := fun n hn => by
  obtain ⟨a, ha, la, oa, ⟨t0, t1, k0, k5, _⟩, h2⟩ := h n hn
  exact ⟨a, ha, la, oa, ⟨t0, by omega, k0, k5, bk_ten t1 t0 k0⟩, h2⟩
theorem BoI.after {f f' : Nat → Option Ac} {t : Int} {C : Nat → Nat} (h : BoI f t C) {i j : Nat} (i3 : i < 3) (j3 : j < 3) (hij : i ≠ j) {a b : Ac} (ha : f i = some a) (hb : f j = some b) {root tag : List UInt8} {x : UInt8} {s : Sm} {er : Int} (t0 : 0 ≤ t) (t6 : t ≤ 1000000) (hm : macL (linkL (i : Int)) (xvL i j x) = tag) (st : StepS f f' i j a b root tag x t s er) :
    (er = 8 ∧ BoI f' (t + 10) C) ∨ (er = 0 ∧ C j < 8 ∧ BoI f' (t + 10) (inc C j)) := by
  obtain ⟨a', ha', la, oa, ta, La, _⟩ := h i i3
  obtain rfl : a = a' := Option.some.inj (ha.symm.trans ha')
  obtain ⟨b', hb', lb, ob, tb, Lb, C8⟩ := h j j3
  obtain rfl : b = b' := Option.some.inj (hb.symm.trans hb')
  by_cases h8 : 8 ≤ b.L.length
  · rcases st with ⟨q, _⟩ | ⟨_, q, _⟩ | ⟨_, _, _, q1, q2⟩ | ⟨_, _, q, _⟩
    · exact absurd hm q
    · rw [oa] at q; cases q
    · exact .inl ⟨q1, by rw [q2]; exact h.late⟩
    · omega
  · rcases st.rate hm oa (by omega) ta.2.1 t6 with ⟨q1, _⟩ | ⟨q1, q2, _, A', c', q3⟩
    · omega
    · refine .inr ⟨q2, by omega, fun n hn => ?_⟩
      obtain ⟨c0, c1, c2, c3, c4⟩ := ta
      by_cases e1 : n = j
      · subst e1
        refine ⟨_, (congrFun q3 n).trans (upd_same _ _ _), lb, ob, ⟨tb.1, by show b.t ≤ t + 10; omega, tb.2.2.1, tb.2.2.2.1, bk_ten tb.2.1 tb.1 tb.2.2.1⟩, ?_, ?_⟩
        · show (b.L ++ [_]).length = inc C n n
          unfold inc; rw [if_pos rfl, List.length_append, Lb]; rfl
        · unfold inc; rw [if_pos rfl]; omega
      · have e3 : inc C j n = C n := by unfold inc; rw [if_neg e1]
        rw [e3]
        by_cases e2 : n = i
        · subst e2
          have e4 : f' n = some { a with t := t, k := bkAt 5 10 a.t a.k t - 1 } := by rw [q3, upd_other _ _ e1, upd_same]
          have bk5 : bkAt 5 10 a.t a.k t ≤ 5 := by unfold bkAt; split <;> omega
          exact ⟨_, e4, la, oa, ⟨t0, by show t ≤ t + 10; omega, by show 0 ≤ bkAt 5 10 a.t a.k t - 1; omega, by show bkAt 5 10 a.t a.k t - 1 ≤ 5; omega, bk_ten (Int.le_refl t) t0 (by show 0 ≤ bkAt 5 10 a.t a.k t - 1; omega)⟩, La, by have := (h n hn); obtain ⟨_, _, _, _, _, _, z⟩ := this; exact z⟩
        · obtain ⟨z, hz, zz⟩ := h.late n hn
          exact ⟨z, by rw [q3, upd_other _ _ e1, upd_other _ _ e2]; exact hz, zz⟩
theorem BoI.start {f : Nat → Option Ac} (h : Bg f 3) : BoI f 0 (fun _ => 0) := fun n hn => by
  obtain ⟨a, ha, na⟩ := h.1 n hn
  refine ⟨a, ha, na.1, na.2.2.2.2.1, ?_, by rw [na.2.2.2.2.2.1]; rfl, Nat.zero_le 8⟩
  rw [na.2.2.2.2.2.2.2.1, na.2.2.2.2.2.2.2.2]
  decide
def maC (C : Nat → Nat) : List Value := [.int .i64 (C 0 : Int), .int .i64 (C 1 : Int), .int .i64 (C 2 : Int)]
theorem maC_at (C : Nat → Nat) {n : Nat} (h : n < 3) : (maC C)[n]? = some (.int .i64 (C n : Int)) := by
  rcases n with _ | _ | _ | n
  · rfl
  · rfl
  · rfl
  · omega
theorem maC_inc (C : Nat → Nat) {j : Nat} (h : j < 3) : (maC C).set j (.int .i64 ((C j + 1 : Nat) : Int)) = maC (inc C j) := by
  rcases j with _ | _ | _ | j
  · rfl
  · rfl
  · rfl
  · omega
theorem ma_built : Tryd.prog.built 78 [] = some (maC fun _ => 0).toArray := by kernel_rfl
theorem ma_alloc (w : World) : (zeroValue 78).run Tryd.prog w = .ok (.agg (maC fun _ => 0).toArray) w := by kernel_rfl
theorem xv_set (A : Option Addr) : ((xvC 0 1 A).set 0 (.int .i64 1)).set 1 (.int .i64 2) = xvC 1 2 A := rfl
theorem RY.turn {B g ticks N r : Nat} {w w' : World} {root : List UInt8} {f : Nat → Option Ac} (h : RY B w g root ticks f N) {t : TypeId} {L : List Value} (k : Cb w r t L) (ht : t ≠ 86 ∧ tagA t = false ∧ t ≠ 5 ∧ t ≠ 23 ∧ t ≠ 108) (gr : w.grownBy w' (some r)) : RY B w' g root ticks f N := by
  obtain ⟨s, mb, q, own, EE, hh⟩ := h
  have KK : ∀ (i : Nat) (cs : Array Value) (t' : TypeId), w.heap[i]? = some (Obj.cells cs t' (0, 0)) → t' ≠ t → w'.heap[i]? = some (Obj.cells cs t' (0, 0)) := fun i cs t' y z => (gr.block i (heap_lt y) (fun q => cells_ne y k z (Option.some.inj q))).trans y
  refine ⟨s, mb, q, own, EE, ⟨KK _ _ _ hh.cb ht.1.symm, hh.sr.stay ((KK _ _ _ hh.sr.cb ht.2.2.2.2.symm).trans hh.sr.cb.symm) ((KK _ _ _ hh.sr.kr.1 ht.2.2.2.1.symm).trans hh.sr.kr.1.symm) (gr.block _ hh.sr.mp.lt fun z => map_ne k hh.sr.mp (Option.some.inj z).symm), hh.en, hh.ti, fun l b' hl => (hh.ac l b' hl).keep (fun _ _ z => z) (Nat.le_refl _) fun i cs t y z => KK i cs t y ?_, hh.lo, hh.ow⟩⟩
  rcases z with ⟨_, z⟩ | rfl | rfl
  · intro q
    subst q
    rw [ht.2.1] at z
    cases z
  · exact ht.2.2.1.symm
  · exact ht.2.2.2.1.symm
theorem Lp.turn {w W W' : World} {g N r : Nat} {root : List UInt8} {f : Nat → Option Ac} (h : Lp w W g root f N) {t : TypeId} {L : List Value} (k : Cb W r t L) (ht : t ≠ 86 ∧ tagA t = false ∧ t ≠ 5 ∧ t ≠ 23 ∧ t ≠ 108) (gr : W.grownBy W' (some r)) (hr : w.heap.size ≤ r) : Lp w W' g root f N := ⟨h.ry.turn k ht gr, Below.trans h.xt ⟨gr.os, gr.tape, gr.output, gr.size, fun i hi => gr.block i (Nat.lt_of_lt_of_le hi h.size) (fun z => by have := Option.some.inj z; omega)⟩⟩
set_option maxHeartbeats 32000000 in
theorem RelayBoth_calls {w : World} {root : List UInt8} (lr : root.length = 32) {A : Option Addr} {sn sc : Nat} {fb : Nat → Bool} (hbl : Bls w A sn sc fb) {tg : TypeId × Nat × Nat} (hG : Gl w tg) : Calls Tryd.prog 7 #[.agg (cellsOf root).toArray, .slice A sn sc] w fun e w' => e = .returned (.bool true) ∧ Ext w w' := by
  have hcv := conv_const
  have AW := Lib.hid (awake20_calls hG)
  have BG := Lib.hid (fun (W : World) (x : w.heap.size ≤ W.heap.size) => begun20_calls (root := root) (w := W) lr x)
  have GE : Hid (∀ W, Ext w W → Gl W tg) := fun W e => hG.kept e hG.lt
  have S_r : (cellsOf root).toArray.size = 32 := by simp [cellsOf_len, lr]
  have hGH := Lib.hid hG
  have hal := key_alloc16
  have S_Z := zeros32_size
  have halE := env_alloc20
  have L_zE := zE_len
  have halS := stamp_alloc16
  have L_ZS := Sm.C_len zSm_ok
  generalize zSm.C = ZS at *
  have S_ZS : ZS.toArray.size = 68 := by rw [List.size_toArray, L_ZS]
  generalize zE = ZE at *
  have S_ZE : ZE.toArray.size = 69 := by rw [List.size_toArray, L_zE]
  have LKn : Hid (∀ (W : World) (n : Nat), Calls Tryd.prog 18 #[.int .i64 (n : Int)] W fun e w' => e = .returned (.agg (cellsOf (linkL (n : Int))).toArray) ∧ Ext W w') := fun W n => link_calls (n := (n : Int))
  have TGn : Hid (∀ (i j : Nat) (x : UInt8) u A, i ≤ 7 → j ≤ 7 → Gl u tg → Bs u A 1 1 [x] → Calls Tryd.prog 23 #[.agg (cellsOf (linkL (i : Int))).toArray, .agg (xvC i j A).toArray] u fun e w' => e = .returned (.tuple #[.agg (cellsOf (macL (linkL (i : Int)) (xvL i j x))).toArray, .int .i64 0]) ∧ Ext u w') := fun i j x u A hi hj hg hb => xtag_calls hi hj hb hg
  have halM := ma_alloc
  have BM := Lib.hid ma_built
  have O_m : (maC fun _ => 0).toArray.all (·.oneCell') = true := by kernel_rfl
  have S_m : (maC fun _ => 0).toArray.size = 3 := rfl
  have XV := Lib.hid (fun A => xv_built0 A)
  have bcap := hbl.1
  have bcm : sc ≤ 9223372036854775807 := by have := hbl.2.1; unfold maxLen at this; omega
  replace hbl := Lib.hid hbl
  generalize zeros32 = Z at *
  clear hG
  have RB : Hid ((w.alloc (.cells (cellsOf root).toArray 23)).heap[w.heap.size]? = some (.cells (cellsOf root).toArray 23 (0, 0)) ∧ Ext w (w.alloc (.cells (cellsOf root).toArray 23))) := ⟨heap_alloc_new _ _, (Ext.refl w).alloc _⟩
  have AW' : Hid (∀ W, Ext w W → Calls Tryd.prog 10 #[] W fun e w' => e = .returned (.bool true) ∧ Ext W w') := fun W x => awake20_calls (GE.out W x)
  go_enter Tryd.func7, Tryd.ntmps7
  go_upto_region 1 with fail
  refine wp_gen (fun W => W.heap[w.heap.size]? = some (.cells (cellsOf root).toArray 23 (0, 0)) ∧ Ext w W) RB.out ?_
  clear RB AW
  rintro w0 ⟨k0, x0⟩
  have AW := Lib.hid (AW'.out w0 x0)
  clear AW'
  replace k0 := Lib.hid k0
  replace x0 := Lib.hid x0
  go_wp2_with fail
  refine AW.out.mono ?_
  rintro e w1 ⟨rfl, x1⟩
  have k1 := (x1.block _ (heap_lt k0.out)).trans k0.out
  have X1 : Hid (Ext w w1) := x0.out.trans x1
  clear AW k0 x0 x1
  go_wp2_with (first | ((with_reducible refine wpList_load_rowW (o := ⟨some 18, _, _, _, _, _⟩) ?_ 23 _ rfl w.heap.size ?_ 23 (cellsOf root).toArray (0, 0) _ ?_ Tryd.underlying23 ?_ ?_ ?_); (· rfl); (· rfl); (· exact k1); (· rfl); (· rw [S_r]; rfl); go_frame))
  refine (BG.out w1 X1.out.size).mono ?_
  rintro e w2 ⟨g, f, rfl, r2, bg, hg, x2⟩
  have LP : Hid (Lp w w2 g root f 0) := ⟨r2, X1.out.trans x2⟩
  replace bg := Lib.hid bg
  clear BG X1 r2 x2 k1
  by_cases h10 : 10 < sn
  · have u1 : decide ((10 : Int) < (sn : Int)) = true := decide_eq_true (by omega)
    clear LKn TGn bg
    go_wp2_with fail
    go_ret
    exact ⟨rfl, LP.out.xt⟩
  have u1 : decide ((10 : Int) < (sn : Int)) = false := decide_eq_false (by omega)
  have BI := Lib.hid (BoI.start bg.out)
  clear bg
  obtain ⟨C0, hC0⟩ : ∃ C : Nat → Nat, C = fun _ => 0 := ⟨_, rfl⟩
  rw [← hC0] at BI halM BM O_m S_m
  clear hC0
  have kM : (w2.alloc (.cells (maC C0).toArray 78)).heap[w2.heap.size]? = some (.cells (maC C0).toArray 78 (0, 0)) := heap_alloc_new _ _
  have WM : Hid (Cb ((w2.alloc (.cells (maC C0).toArray 78)).setRow w2.heap.size (maC C0).toArray) w2.heap.size 78 (maC C0) ∧ Ext w2 ((w2.alloc (.cells (maC C0).toArray 78)).setRow w2.heap.size (maC C0).toArray)) := ⟨setRow_heap _ _ _ _ _ _ kM, Ext.newRow _ _ _⟩
  generalize hmc : maC C0 = MC at *
  replace hmc := Lib.hid (fun _ : Unit => hmc)
  go_upto_region 6 with (first
    | (refine wpList_build_as rfl _ _ rfl MC.toArray (by simp only [List.map_toArray, List.map_nil]; exact BM.out) ?_; go_frame)
    | (refine wpList_store_row rfl 78 _ _ rfl w2.heap.size MC.toArray rfl rfl 78 MC.toArray kM (by rw [S_m]; rfl) rfl O_m ?_; simp only [Act.put]))
  refine wp_gen (fun W => Cb W w2.heap.size 78 MC ∧ Ext w2 W) WM.out ?_
  have gMw : w.heap.size ≤ w2.heap.size := LP.out.size
  obtain ⟨gM, hgM⟩ : ∃ x, x = w2.heap.size := ⟨_, rfl⟩
  rw [← hgM] at gMw ⊢
  clear WM kM hgM BM
  rintro w3 ⟨kM, x3⟩
  rw [← hmc.out ()] at kM
  have KM := Lib.hid kM
  have LP3 : Hid (Lp w w3 g root f 0) := LP.out.ext x3
  clear LP kM x3 hmc
  go_wp2_with fail
  go_loopw [8] (fun iv wr => ∃ (k N : Nat) (f : Nat → Option Ac) (C : Nat → Nat), k ≤ sn ∧ iv = .int .i64 (k : Int) ∧ Lp w wr g root f N ∧ N ≤ k ∧ Cb wr gM 78 (maC C) ∧ BoI f ((k : Int) * 10) C) (fun iv _ => sn - (intOf iv).toNat)
  case atStart => exact ⟨0, 0, f, C0, Nat.zero_le _, rfl, LP3.out, Nat.le_refl _, KM.out, BI.out⟩
  case round =>
    clear LP3 KM BI
    obtain ⟨k, N, f, C, hk, rfl, lp, hN, km, bi⟩ := hrel
    by_cases hlt : k < sn
    · have hi1 : IntKind.i64.wrap ((k : Int) + 1) = (k : Int) + 1 := IntWalk.i64_in _ (by omega)
      have hi2 : IntKind.u8.wrap (k : Int) = (k : Int) := by rw [IntKind.wrap_u8]; omega
      have hi3 : IntKind.i64.wrap ((k : Int) * 10) = (k : Int) * 10 := IntWalk.i64_in _ (by omega)
      have hkb : (k : Int) = ((UInt8.ofNat k).toNat : Int) := by rw [UInt8.toNat_ofNat']; omega
      obtain ⟨x, hx⟩ : ∃ x, x = UInt8.ofNat k := ⟨_, rfl⟩
      rw [← hx] at hkb
      have EBL : Hid (BsB w.heap.size (wr.alloc (.cells #[.int .u8 (k : Int)] 5)) (some ⟨wr.heap.size, 0, none⟩) 1 1 [x]) := BsB.boxed8 wr x _ hkb (0, 0)
      have XB : Hid (Ext wr (wr.alloc (.cells #[.int .u8 (k : Int)] 5))) := (Ext.refl _).alloc _
      replace hkb := Lib.hid (fun _ : Unit => hkb)
      replace hx := Lib.hid (fun _ : Unit => hx)
      have BEc := Lib.hid (XV.out (some ⟨wr.heap.size, 0, none⟩))
      have L_e0 := xvC_len 0 1 (some ⟨wr.heap.size, 0, none⟩)
      have O_e0 := xvC_one 0 1 (some ⟨wr.heap.size, 0, none⟩)
      obtain ⟨AA, hAA⟩ : ∃ AA : Option Addr, AA = some ⟨wr.heap.size, 0, none⟩ := ⟨_, rfl⟩
      obtain ⟨e0, he0⟩ : ∃ ev, ev = xvC 0 1 AA := ⟨_, rfl⟩
      rw [← hAA] at EBL BEc L_e0 O_e0
      rw [← he0] at BEc L_e0 O_e0
      have S_e0 : e0.toArray.size = 69 := by rw [List.size_toArray, L_e0]
      replace he0 := Lib.hid (fun _ : Unit => he0)
      rw [hAA] at BEc
      obtain ⟨r, hr⟩ : ∃ r, r = wr.heap.size + 1 := ⟨_, rfl⟩
      have sU : (wr.alloc (.cells #[.int .u8 (k : Int)] 5)).heap.size = r := by rw [hr]; simp
      have k0 : ((wr.alloc (.cells #[.int .u8 (k : Int)] 5)).alloc (.cells ZE.toArray 37)).heap[r]? = some (.cells ZE.toArray 37 (0, 0)) := by rw [← sU]; exact heap_alloc_new _ _
      have W0 : Hid (Cb (((wr.alloc (.cells #[.int .u8 (k : Int)] 5)).alloc (.cells ZE.toArray 37)).setRow r e0.toArray) r 37 e0 ∧ BsB w.heap.size (((wr.alloc (.cells #[.int .u8 (k : Int)] 5)).alloc (.cells ZE.toArray 37)).setRow r e0.toArray) AA 1 1 [x] ∧ Ext wr (((wr.alloc (.cells #[.int .u8 (k : Int)] 5)).alloc (.cells ZE.toArray 37)).setRow r e0.toArray)) := by
        have x : Ext (wr.alloc (.cells #[.int .u8 (k : Int)] 5)) (((wr.alloc (.cells #[.int .u8 (k : Int)] 5)).alloc (.cells ZE.toArray 37)).setRow r e0.toArray) := below_setRow ((Ext.refl _).alloc _) (by rw [sU]; exact Nat.le_refl _) _
        exact ⟨setRow_heap _ _ _ _ _ _ k0, EBL.out.ext x, XB.out.trans x⟩
      replace hAA := Lib.hid (fun _ : Unit => hAA)
      clear XB EBL
      have sU' := hr
      have rw_ : w.heap.size ≤ r := by have := lp.size; omega
      have grM : gM < r := by have := km.lt; omega
      replace hr := Lib.hid (fun _ : Unit => hr)
      replace lp := Lib.hid lp
      replace km := Lib.hid km
      replace bi := Lib.hid bi
      go_upto_region 10 with (first
        | (refine wpList_build_as rfl _ _ rfl e0.toArray (by simp only [List.map_toArray, List.map_cons, List.map_nil]; exact BEc.out) ?_; go_frame)
        | (refine wpList_store_row rfl 37 _ _ rfl r e0.toArray (by rw [sU']; rfl) rfl 37 ZE.toArray k0 (by rw [S_e0]; rfl) (by rw [S_e0, S_ZE]) O_e0 ?_; simp only [Act.put]))
      refine wp_gen (fun W => Cb W r 37 e0 ∧ BsB w.heap.size W AA 1 1 [x] ∧ Ext wr W) W0.out ?_
      rw [← hr.out ()]
      clear W0 k0 sU sU' BEc O_e0 hr
      rintro w4 ⟨ke, be, x4⟩
      have LP4 : Hid (Lp w w4 g root f N) := lp.out.ext x4
      have KM4 : Hid (Cb w4 gM 78 (maC C)) := km.out.ext x4
      obtain ⟨bb, boff, rfl, hbb, hbc⟩ := (hbl.out.ext LP4.out.xt).2.2 (by omega)
      have hbk := hbc k hlt
      replace be := Lib.hid be
      clear lp km x4 hbc
      rcases hfb : fb k with _ | _
      · rw [hfb] at hbk
        clear hfb
        have E5 : Hid (Cb w4 r 37 (xvC 0 1 AA) ∧ BsB w.heap.size w4 AA 1 1 [x] ∧ Lp w w4 g root f N ∧ Cb w4 gM 78 (maC C)) := ⟨by rw [← he0.out ()]; exact ke, be.out, LP4.out, KM4.out⟩
        go_upto_region 13 with fail
        refine wp_gen (fun W => Cb W r 37 (xvC 0 1 AA) ∧ BsB w.heap.size W AA 1 1 [x] ∧ Lp w W g root f N ∧ Cb W gM 78 (maC C)) E5.out ?_
        clear E5 ke be LP4 KM4 hbk
        rintro w5 ⟨k5, b5, lp5, km5⟩
        have LK : Hid (∀ W : World, Calls Tryd.prog 18 #[.int .i64 0] W fun e w' => e = .returned (.agg (cellsOf (linkL ((0 : Nat) : Int))).toArray) ∧ Ext W w') := fun W => LKn.out W 0
        obtain ⟨tag, htag⟩ : ∃ tag, tag = macL (linkL ((0 : Nat) : Int)) (xvL 0 1 x) := ⟨_, rfl⟩
        have L_tag : tag.length = 32 := by rw [htag]; exact macL_len _ _
        have TG : Hid (∀ u, Ext w5 u → Calls Tryd.prog 23 #[.agg (cellsOf (linkL ((0 : Nat) : Int))).toArray, .agg (xvC 0 1 AA).toArray] u fun e w' => e = .returned (.tuple #[.agg (cellsOf tag).toArray, .int .i64 0]) ∧ Ext u w') := fun u x => by rw [htag]; exact TGn.out 0 1 _ u AA (by omega) (by omega) (GE.out u (lp5.xt.trans x)) (b5.ext x).1
        have hTM : Hid (macL (linkL ((0 : Nat) : Int)) (xvL 0 1 x) = tag) := htag.symm
        clear htag
        generalize linkL ((0 : Nat) : Int) = lk at LK TG
        have S_tag : (cellsOf tag).toArray.size = 32 := by simp [cellsOf_len, L_tag]
        have O_tag := cellsOf_one tag
        obtain ⟨ev, hev⟩ : ∃ ev, ev = xvC 0 1 AA := ⟨_, rfl⟩
        have L_ev : ev.length = 69 := by rw [hev]; exact xvC_len _ _ _
        have S_ev : ev.toArray.size = 69 := by rw [List.size_toArray, L_ev]
        have cv0 : ev[0]? = some (.int .i64 0) := by rw [hev]; rfl
        have cv1 : ev[1]? = some (.int .i64 1) := by rw [hev]; rfl
        rw [← hev] at TG k5
        replace hev := Lib.hid (fun _ : Unit => hev)
        replace cv0 := Lib.hid cv0
        replace cv1 := Lib.hid cv1
        have ENV : Hid (∀ u, Ext w5 u → Cb u r 37 ev) := fun u x => k5.ext x
        replace b5 := Lib.hid b5
        have LP5 := Lib.hid lp5
        have KM5 := Lib.hid km5
        clear k5 lp5 km5
        go_cut [10, 11] (fun sP sE wx => ∃ gT : Nat, sP = .pointer (some ⟨gT, 0, none⟩) ∧ sE = .int .i64 0 ∧ Ext w5 wx ∧ Ky wx gT tag ∧ w5.heap.size ≤ gT)
        case first =>
          refine qgT (R := Below w5.heap.size) (Below.refl _) (fun _ _ _ => Below.trans) (.rd 0 (.rd 1 (.rd 3 (.alt 2 (.alt 4 (.rd 5 (.rd 6 (.rd 7 (.alt 8 (.alt 9 (.rd 10 .nil) .stop) .stop)))) (.alt 8 (.alt 4 (.rd 5 (.rd 6 (.rd 7 (.alt 9 (.rd 10 .nil) .stop)))) .stop) .stop)) (.alt 8 (.alt 2 (.alt 4 (.rd 5 (.rd 6 (.rd 7 (.alt 9 (.rd 10 .nil) .stop)))) .stop) .stop) .stop))))) 11 ?_
          repeat ((first | refine qtR _ (fun w' e => (ENV.out w' (Ext.trans (Ext.refl _).drew e)).cell cv0.out) ?_ | refine qtS ?_); go_frame)
          refine qtV rfl (fun w' => w'.heap[r]? = some (.cells ev.toArray 37 (0, 0))) (fun w' e => ENV.out w' (Ext.trans (Ext.refl _).drew e)) (.agg ev.toArray) (fun w' hF => exec_load_row rfl rfl hF rfl rfl (by rw [S_ev]; rfl)) ?_
          go_frame
          repeat ((first | refine qtR0 ?_ | refine qtS ?_); go_frame)
          have SE : Hid (Ext w5 w5.drew) := (Ext.refl w5).drew
          generalize w5.drew = WC at *
          repeat' (first
            | exact seqT_stop
            | (refine seqT_do (i := 2) _ rfl ?_ ?_ (fun K1 hK1 => ?_)
               (· rfl)
               rotate_left
               go_simp
               refine (LK.out _).mono ?_
               rintro e0 WC ⟨rfl, e⟩
               refine hK1.out _ _ (e.mono SE.out.size) ?_
               clear hK1 K1
               (try replace hL := Lib.hid ((e.block _ (heap_lt hL.out)).trans hL.out))
               replace SE := Lib.hid (SE.out.trans e)
               clear e
               (try go_frame)
               repeat ((first | refine qtR0 ?_ | refine qtS ?_); go_frame)
               skip)
            | (refine seqT_do (i := 4) _ rfl ?_ ?_ (fun K1 hK1 => ?_)
               (· rfl)
               rotate_left
               go_simp
               refine (TG.out _ SE.out).mono ?_
               rintro e0 WC ⟨rfl, e⟩
               refine hK1.out _ _ (e.mono SE.out.size) ?_
               clear hK1 K1
               (try replace hL := Lib.hid ((e.block _ (heap_lt hL.out)).trans hL.out))
               replace SE := Lib.hid (SE.out.trans e)
               clear e
               (try go_frame)
               repeat ((first | refine qtR0 ?_ | refine qtS ?_); go_frame)
               skip)
            | (refine seqT_do (i := 8) _ rfl ?_ ?_ (fun K1 hK1 => ?_)
               (· rfl)
               rotate_left
               go_simp
               have e : Ext WC (WC.alloc (Obj.cells Z 23)) := (Ext.refl WC).alloc _
               obtain ⟨gT, hgT⟩ : ∃ g, g = WC.heap.size := ⟨_, rfl⟩
               have hL := Lib.hid (heap_alloc_new WC (Obj.cells Z 23))
               rw [← hgT] at hL ⊢
               have zl : w5.heap.size ≤ gT := by rw [hgT]; exact SE.out.size
               refine hK1.out _ (WC.alloc (Obj.cells Z 23)) (e.mono SE.out.size) ?_
               clear hK1 K1
               replace SE := Lib.hid (SE.out.trans e)
               clear e
               replace hgT := Lib.hid hgT
               generalize WC.alloc (Obj.cells Z 23) = WC at *
               (try go_frame)
               repeat ((first | refine qtR0 ?_ | refine qtS ?_); go_frame)
               skip)
            | (refine seqT_do (i := 9) _ rfl ?_ ?_ (fun K1 hK1 => ?_)
               (· rfl)
               rotate_left
               refine wp_store_row _ _ _ rfl gT (cellsOf tag).toArray rfl rfl 23 Z hL.out (by rw [S_tag]; rfl) (by rw [S_tag]; exact S_Z) O_tag ?_
               refine hK1.out _ _ (below_setRow (Below.refl _ _) zl _) ?_
               clear hK1 K1
               replace SE : Hid (Ext w5 (WC.setRow gT (cellsOf tag).toArray)) := below_setRow SE.out zl _
               replace hL : Hid (Ky (WC.setRow gT (cellsOf tag).toArray) gT tag) := ⟨setRow_heap _ _ _ _ _ _ hL.out, L_tag⟩
               generalize WC.setRow gT (cellsOf tag).toArray = WC at *
               (try simp only [Act.put])
               repeat ((first | refine qtR0 ?_ | refine qtS ?_); go_frame)
               skip)
            | (refine seqT_done ?_
               go_wp2_with fail
               go_meet
               exact ⟨gT, rfl, rfl, SE.out, hL.out, zl⟩))
        case rest =>
          obtain ⟨gT, rfl, rfl, x6, kT, zT⟩ := hcut
          have ep : Ep w wc r 0 1 AA x gT tag := ⟨by rw [← hev.out ()]; exact ENV.out wc x6, b5.out.ext x6, kT⟩
          have lp6 := LP5.out.ext x6
          have KM6 : Hid (Cb wc gM 78 (maC C)) := KM5.out.ext x6
          obtain ⟨a, ha, la, _, _, _, _⟩ := bi.out 0 (by omega)
          obtain ⟨b, hb, _, _, _, _, _⟩ := bi.out 1 (by omega)
          have SN := Lib.hid (lp6.send ep (by omega) ha la hb (by omega) (by omega) (by omega) (now := (k : Int) * 10) (by omega) (by omega) hGH.out)
          have AFT := fun f' s er => bi.out.after (f' := f') (i := 0) (j := 1) (by omega) (by omega) (by omega) ha hb (root := root) (tag := tag) (x := x) (s := s) (er := er) (by omega) (by omega) hTM.out
          replace AFT := Lib.hid AFT
          rw [← hev.out ()] at SN
          have kE := ENV.out wc x6
          have kT1 := kT.1
          have kE' := Lib.hid kE
          clear ep lp6 ha la hb x6 kT zT ENV TG LK LP5 KM5 b5
          go_wp2_with (first | ((with_reducible refine wpList_load_rowW (o := ⟨some 59, _, _, _, _, _⟩) ?_ 37 _ rfl r ?_ 37 ev.toArray (0, 0) _ ?_ Tryd.underlying37 ?_ ?_ ?_); (· rfl); (· rfl); (· exact kE); (· rfl); (· rw [S_ev]; rfl); go_frame) | ((with_reducible refine wpList_load_rowW (o := ⟨some 60, _, _, _, _, _⟩) ?_ 23 _ rfl gT ?_ 23 (cellsOf tag).toArray (0, 0) _ ?_ Tryd.underlying23 ?_ ?_ ?_); (· rfl); (· rfl); (· exact kT1); (· rfl); (· rw [S_tag]; rfl); go_frame))
          refine SN.out.mono ?_
          rintro e w7 ⟨s, er, f7, rfl, sok, lp7, t7, st⟩
          have AF := AFT.out f7 s er st
          have L_s := Sm.C_len sok
          have O_s := one_cells s.one
          generalize s.C = SC at *
          have S_s : SC.toArray.size = 68 := by rw [List.size_toArray, L_s]
          have kS : (w7.alloc (.cells ZS.toArray 67)).heap[w7.heap.size]? = some (.cells ZS.toArray 67 (0, 0)) := heap_alloc_new _ _
          have X8 : Ext w7 ((w7.alloc (.cells ZS.toArray 67)).setRow w7.heap.size SC.toArray) := Ext.newRow _ _ _
          have N8 : Hid (Lp w ((w7.alloc (.cells ZS.toArray 67)).setRow w7.heap.size SC.toArray) g root f7 (N + 1) ∧ Cb ((w7.alloc (.cells ZS.toArray 67)).setRow w7.heap.size SC.toArray) gM 78 (maC C) ∧ Cb ((w7.alloc (.cells ZS.toArray 67)).setRow w7.heap.size SC.toArray) r 37 ev) := ⟨lp7.ext X8, (t7.cb KM6.out rfl).ext X8, (t7.cb kE'.out rfl).ext X8⟩
          clear SN AFT st lp7 t7 kE kT1 kE' KM6 sok X8
          go_upto_region 15 with (first
            | (refine wpList_store_row rfl 67 _ _ rfl w7.heap.size SC.toArray rfl rfl 67 ZS.toArray kS (by rw [S_s]; rfl) (by rw [S_s, S_ZS]) O_s ?_; simp only [Act.put]))
          refine wp_gen (fun W => Lp w W g root f7 (N + 1) ∧ Cb W gM 78 (maC C) ∧ Cb W r 37 ev) N8.out ?_
          clear N8 kS
          rintro w8 ⟨lp8, km8, ke8⟩
          rcases AF with ⟨rfl, bi8⟩ | ⟨rfl, hC8, bi8⟩
          · have LP8 := Lib.hid lp8
            have KM8 := Lib.hid km8
            replace bi8 := Lib.hid bi8
            clear lp8 km8 ke8 bi
            go_wp2_with fail
            go_loopw [14] (fun nv wr => ∃ n : Nat, n ≤ 3 ∧ nv = .int .i64 (n : Int) ∧ Lp w wr g root f7 (N + 1) ∧ Cb wr gM 78 (maC C)) (fun nv _ => 3 - (intOf nv).toNat)
            case atStart => exact ⟨0, by omega, rfl, LP8.out, KM8.out⟩
            case round =>
              obtain ⟨n, hn3, rfl, lpn, kmn⟩ := hrel
              clear LP8 KM8
              by_cases hlt3 : n < 3
              · have hj1 : IntKind.i64.wrap ((n : Int) + 1) = (n : Int) + 1 := IntWalk.i64_in _ (by omega)
                have w3 : (n : Int) < 3 := by omega
                have w0 : (0 : Int) ≤ (n : Int) := by omega
                obtain ⟨a, ha, _, _, _, La, _⟩ := bi8.out n hlt3
                have ML := Lib.hid (mails_ok lpn.ry ha (by omega))
                rw [La] at ML
                have KN : Hid (∀ W, Ext wr W → Lp w W g root f7 (N + 1) ∧ Cb W gM 78 (maC C)) := fun W x => ⟨lpn.ext x, kmn.ext x⟩
                clear lpn kmn ha La
                go_wp2_with fail
                refine ML.out.mono ?_
                rintro e wq ⟨q8, L8, rfl, _, _, _, _, x8⟩
                obtain ⟨lp8, km8⟩ := KN.out wq x8
                have c8 := km8.cell (maC_at C hlt3)
                replace lp8 := Lib.hid lp8
                replace km8 := Lib.hid km8
                clear ML KN x8
                go_wp2_with fail
                go_round
                case rel => exact ⟨n + 1, by omega, by go_num, lp8.out, km8.out⟩
                case measure => simp [intOf]; omega
              · obtain rfl : n = 3 := by omega
                rw [show ((3 : Nat) : Int) = 3 from rfl]
                replace lpn := Lib.hid lpn
                replace kmn := Lib.hid kmn
                have hBI : Hid (BoI f7 (((k + 1 : Nat) : Int) * 10) C) := by
                  unfold Hid
                  rw [show ((k + 1 : Nat) : Int) * 10 = (k : Int) * 10 + 10 by omega]
                  exact bi8.out
                go_wp2_with fail
                go_round
                case rel => exact ⟨k + 1, N + 1, f7, C, by omega, by go_num, lpn.out, by omega, kmn.out, hBI.out⟩
                case measure => simp [intOf]; omega
          · have cT := ke8.cell cv1.out
            have cM := km8.cell (maC_at C (n := 1) (by omega))
            have fM := km8.frozen 1
            have hjc : IntKind.i64.wrap ((C 1 : Int) + 1) = ((C 1 + 1 : Nat) : Int) := by rw [IntWalk.i64_in _ (by omega)]; rfl
            have km9 := km8.setCell (o := 1) (v := .int .i64 ((C 1 + 1 : Nat) : Int))
            rw [maC_inc C (by omega)] at km9
            have gr : w8.grownBy (w8.setCell ⟨gM, 1, none⟩ (.int .i64 ((C 1 + 1 : Nat) : Int))) (some gM) := (World.grownBy.refl w8 _).set _ _
            have LP9 : Hid (Lp w (w8.setCell ⟨gM, 1, none⟩ (.int .i64 ((C 1 + 1 : Nat) : Int))) g root f7 (N + 1)) := lp8.turn km8 (by decide) gr gMw
            have KM9 := Lib.hid km9
            replace bi8 := Lib.hid bi8
            clear lp8 km8 ke8 bi km9 gr
            go_upto_region 19 with fail
            refine wp_gen (fun W => Lp w W g root f7 (N + 1) ∧ Cb W gM 78 (maC (inc C 1))) ⟨LP9.out, KM9.out⟩ ?_
            clear LP9 KM9 cT cM fM hjc
            rintro w9 ⟨lp9, km9⟩
            have LP9 := Lib.hid lp9
            have KM9 := Lib.hid km9
            clear lp9 km9
            go_wp2_with fail
            go_loopw [14] (fun nv wr => ∃ n : Nat, n ≤ 3 ∧ nv = .int .i64 (n : Int) ∧ Lp w wr g root f7 (N + 1) ∧ Cb wr gM 78 (maC (inc C 1))) (fun nv _ => 3 - (intOf nv).toNat)
            case atStart => exact ⟨0, by omega, rfl, LP9.out, KM9.out⟩
            case round =>
              obtain ⟨n, hn3, rfl, lpn, kmn⟩ := hrel
              clear LP9 KM9
              by_cases hlt3 : n < 3
              · have hj1 : IntKind.i64.wrap ((n : Int) + 1) = (n : Int) + 1 := IntWalk.i64_in _ (by omega)
                have w3 : (n : Int) < 3 := by omega
                have w0 : (0 : Int) ≤ (n : Int) := by omega
                obtain ⟨a, ha, _, _, _, La, _⟩ := bi8.out n hlt3
                have ML := Lib.hid (mails_ok lpn.ry ha (by omega))
                rw [La] at ML
                have KN : Hid (∀ W, Ext wr W → Lp w W g root f7 (N + 1) ∧ Cb W gM 78 (maC (inc C 1))) := fun W x => ⟨lpn.ext x, kmn.ext x⟩
                clear lpn kmn ha La
                go_wp2_with fail
                refine ML.out.mono ?_
                rintro e wq ⟨q8, L8, rfl, _, _, _, _, x8⟩
                obtain ⟨lp8, km8⟩ := KN.out wq x8
                have c8 := km8.cell (maC_at (inc C 1) hlt3)
                replace lp8 := Lib.hid lp8
                replace km8 := Lib.hid km8
                clear ML KN x8
                go_wp2_with fail
                go_round
                case rel => exact ⟨n + 1, by omega, by go_num, lp8.out, km8.out⟩
                case measure => simp [intOf]; omega
              · obtain rfl : n = 3 := by omega
                rw [show ((3 : Nat) : Int) = 3 from rfl]
                replace lpn := Lib.hid lpn
                replace kmn := Lib.hid kmn
                have hBI : Hid (BoI f7 (((k + 1 : Nat) : Int) * 10) (inc C 1)) := by
                  unfold Hid
                  rw [show ((k + 1 : Nat) : Int) * 10 = (k : Int) * 10 + 10 by omega]
                  exact bi8.out
                go_wp2_with fail
                go_round
                case rel => exact ⟨k + 1, N + 1, f7, (inc C 1), by omega, by go_num, lpn.out, by omega, kmn.out, hBI.out⟩
                case measure => simp [intOf]; omega
      · rw [hfb] at hbk
        clear hfb
        have ke' := ke
        rw [he0.out ()] at ke'
        have cc0 := ke'.cell (j := 0) (v := .int .i64 0) rfl
        have ff0 := ke'.frozen 0
        have ke1 := ke'.setCell (o := 0) (v := .int .i64 1)
        have cc1 := ke1.cell (j := 1) (v := .int .i64 1) rfl
        have ff1 := ke1.frozen 1
        have ke2 := ke1.setCell (o := 1) (v := .int .i64 2)
        have E5 : Hid (Cb ((w4.setCell ⟨r, 0, none⟩ (.int .i64 1)).setCell ⟨r, 1, none⟩ (.int .i64 2)) r 37 (xvC 1 2 AA) ∧ BsB w.heap.size ((w4.setCell ⟨r, 0, none⟩ (.int .i64 1)).setCell ⟨r, 1, none⟩ (.int .i64 2)) AA 1 1 [x] ∧ Lp w ((w4.setCell ⟨r, 0, none⟩ (.int .i64 1)).setCell ⟨r, 1, none⟩ (.int .i64 2)) g root f N ∧ Cb ((w4.setCell ⟨r, 0, none⟩ (.int .i64 1)).setCell ⟨r, 1, none⟩ (.int .i64 2)) gM 78 (maC C)) := by
          have gr : w4.grownBy ((w4.setCell ⟨r, 0, none⟩ (.int .i64 1)).setCell ⟨r, 1, none⟩ (.int .i64 2)) (some r) := ((World.grownBy.refl w4 _).set _ _).set _ _
          refine ⟨by rw [xv_set] at ke2; exact ke2, ⟨⟨be.out.1.1, be.out.1.2.1, be.out.1.2.2.1, fun h0 => ?_⟩, fun h0 q hq => ?_⟩, LP4.out.turn ke (by decide) gr rw_, (gr.block _ KM4.out.lt (fun z => by have := Option.some.inj z; omega)).trans KM4.out⟩
          · obtain ⟨b', off, hA, hb, hc⟩ := be.out.1.2.2.2 h0
            refine ⟨b', off, hA, Nat.lt_of_lt_of_le hb gr.size, fun j hj => (World.cell?_of_block (w := w4) (a := ⟨b', off + j, none⟩) (gr.block b' hb fun z => ?_)).trans (hc j hj)⟩
            obtain rfl := Option.some.inj z
            rcases be.out.2 h0 _ hA with z1 | ⟨cs, fr, z1⟩
            · have z1 : b' < w.heap.size := z1
              omega
            · have z1 : w4.heap[b']? = _ := z1
              have ke : w4.heap[b']? = _ := ke
              rw [z1] at ke
              injection ke with ke
              injection ke with _ ke
              exact absurd ke (by decide)
          · rcases be.out.2 h0 q hq with z1 | ⟨cs, fr, z1⟩
            · exact .inl z1
            · refine .inr ⟨cs, fr, (gr.block _ (heap_lt z1) fun z => ?_).trans z1⟩
              have ke : w4.heap[r]? = _ := ke
              rw [← Option.some.inj z, z1] at ke
              injection ke with ke
              injection ke with _ ke
              exact absurd ke (by decide)
        go_upto_region 13 with fail
        refine wp_gen (fun W => Cb W r 37 (xvC 1 2 AA) ∧ BsB w.heap.size W AA 1 1 [x] ∧ Lp w W g root f N ∧ Cb W gM 78 (maC C)) E5.out ?_
        clear cc0 cc1 ff0 ff1 ke1 ke2 ke'
        clear E5 ke be LP4 KM4 hbk
        rintro w5 ⟨k5, b5, lp5, km5⟩
        have LK : Hid (∀ W : World, Calls Tryd.prog 18 #[.int .i64 1] W fun e w' => e = .returned (.agg (cellsOf (linkL ((1 : Nat) : Int))).toArray) ∧ Ext W w') := fun W => LKn.out W 1
        obtain ⟨tag, htag⟩ : ∃ tag, tag = macL (linkL ((1 : Nat) : Int)) (xvL 1 2 x) := ⟨_, rfl⟩
        have L_tag : tag.length = 32 := by rw [htag]; exact macL_len _ _
        have TG : Hid (∀ u, Ext w5 u → Calls Tryd.prog 23 #[.agg (cellsOf (linkL ((1 : Nat) : Int))).toArray, .agg (xvC 1 2 AA).toArray] u fun e w' => e = .returned (.tuple #[.agg (cellsOf tag).toArray, .int .i64 0]) ∧ Ext u w') := fun u x => by rw [htag]; exact TGn.out 1 2 _ u AA (by omega) (by omega) (GE.out u (lp5.xt.trans x)) (b5.ext x).1
        have hTM : Hid (macL (linkL ((1 : Nat) : Int)) (xvL 1 2 x) = tag) := htag.symm
        clear htag
        generalize linkL ((1 : Nat) : Int) = lk at LK TG
        have S_tag : (cellsOf tag).toArray.size = 32 := by simp [cellsOf_len, L_tag]
        have O_tag := cellsOf_one tag
        obtain ⟨ev, hev⟩ : ∃ ev, ev = xvC 1 2 AA := ⟨_, rfl⟩
        have L_ev : ev.length = 69 := by rw [hev]; exact xvC_len _ _ _
        have S_ev : ev.toArray.size = 69 := by rw [List.size_toArray, L_ev]
        have cv0 : ev[0]? = some (.int .i64 1) := by rw [hev]; rfl
        have cv1 : ev[1]? = some (.int .i64 2) := by rw [hev]; rfl
        rw [← hev] at TG k5
        replace hev := Lib.hid (fun _ : Unit => hev)
        replace cv0 := Lib.hid cv0
        replace cv1 := Lib.hid cv1
        have ENV : Hid (∀ u, Ext w5 u → Cb u r 37 ev) := fun u x => k5.ext x
        replace b5 := Lib.hid b5
        have LP5 := Lib.hid lp5
        have KM5 := Lib.hid km5
        clear k5 lp5 km5
        go_cut [10, 11] (fun sP sE wx => ∃ gT : Nat, sP = .pointer (some ⟨gT, 0, none⟩) ∧ sE = .int .i64 0 ∧ Ext w5 wx ∧ Ky wx gT tag ∧ w5.heap.size ≤ gT)
        case first =>
          refine qgT (R := Below w5.heap.size) (Below.refl _) (fun _ _ _ => Below.trans) (.rd 0 (.rd 1 (.rd 3 (.alt 2 (.alt 4 (.rd 5 (.rd 6 (.rd 7 (.alt 8 (.alt 9 (.rd 10 .nil) .stop) .stop)))) (.alt 8 (.alt 4 (.rd 5 (.rd 6 (.rd 7 (.alt 9 (.rd 10 .nil) .stop)))) .stop) .stop)) (.alt 8 (.alt 2 (.alt 4 (.rd 5 (.rd 6 (.rd 7 (.alt 9 (.rd 10 .nil) .stop)))) .stop) .stop) .stop))))) 11 ?_
          repeat ((first | refine qtR _ (fun w' e => (ENV.out w' (Ext.trans (Ext.refl _).drew e)).cell cv0.out) ?_ | refine qtS ?_); go_frame)
          refine qtV rfl (fun w' => w'.heap[r]? = some (.cells ev.toArray 37 (0, 0))) (fun w' e => ENV.out w' (Ext.trans (Ext.refl _).drew e)) (.agg ev.toArray) (fun w' hF => exec_load_row rfl rfl hF rfl rfl (by rw [S_ev]; rfl)) ?_
          go_frame
          repeat ((first | refine qtR0 ?_ | refine qtS ?_); go_frame)
          have SE : Hid (Ext w5 w5.drew) := (Ext.refl w5).drew
          generalize w5.drew = WC at *
          repeat' (first
            | exact seqT_stop
            | (refine seqT_do (i := 2) _ rfl ?_ ?_ (fun K1 hK1 => ?_)
               (· rfl)
               rotate_left
               go_simp
               refine (LK.out _).mono ?_
               rintro e0 WC ⟨rfl, e⟩
               refine hK1.out _ _ (e.mono SE.out.size) ?_
               clear hK1 K1
               (try replace hL := Lib.hid ((e.block _ (heap_lt hL.out)).trans hL.out))
               replace SE := Lib.hid (SE.out.trans e)
               clear e
               (try go_frame)
               repeat ((first | refine qtR0 ?_ | refine qtS ?_); go_frame)
               skip)
            | (refine seqT_do (i := 4) _ rfl ?_ ?_ (fun K1 hK1 => ?_)
               (· rfl)
               rotate_left
               go_simp
               refine (TG.out _ SE.out).mono ?_
               rintro e0 WC ⟨rfl, e⟩
               refine hK1.out _ _ (e.mono SE.out.size) ?_
               clear hK1 K1
               (try replace hL := Lib.hid ((e.block _ (heap_lt hL.out)).trans hL.out))
               replace SE := Lib.hid (SE.out.trans e)
               clear e
               (try go_frame)
               repeat ((first | refine qtR0 ?_ | refine qtS ?_); go_frame)
               skip)
            | (refine seqT_do (i := 8) _ rfl ?_ ?_ (fun K1 hK1 => ?_)
               (· rfl)
               rotate_left
               go_simp
               have e : Ext WC (WC.alloc (Obj.cells Z 23)) := (Ext.refl WC).alloc _
               obtain ⟨gT, hgT⟩ : ∃ g, g = WC.heap.size := ⟨_, rfl⟩
               have hL := Lib.hid (heap_alloc_new WC (Obj.cells Z 23))
               rw [← hgT] at hL ⊢
               have zl : w5.heap.size ≤ gT := by rw [hgT]; exact SE.out.size
               refine hK1.out _ (WC.alloc (Obj.cells Z 23)) (e.mono SE.out.size) ?_
               clear hK1 K1
               replace SE := Lib.hid (SE.out.trans e)
               clear e
               replace hgT := Lib.hid hgT
               generalize WC.alloc (Obj.cells Z 23) = WC at *
               (try go_frame)
               repeat ((first | refine qtR0 ?_ | refine qtS ?_); go_frame)
               skip)
            | (refine seqT_do (i := 9) _ rfl ?_ ?_ (fun K1 hK1 => ?_)
               (· rfl)
               rotate_left
               refine wp_store_row _ _ _ rfl gT (cellsOf tag).toArray rfl rfl 23 Z hL.out (by rw [S_tag]; rfl) (by rw [S_tag]; exact S_Z) O_tag ?_
               refine hK1.out _ _ (below_setRow (Below.refl _ _) zl _) ?_
               clear hK1 K1
               replace SE : Hid (Ext w5 (WC.setRow gT (cellsOf tag).toArray)) := below_setRow SE.out zl _
               replace hL : Hid (Ky (WC.setRow gT (cellsOf tag).toArray) gT tag) := ⟨setRow_heap _ _ _ _ _ _ hL.out, L_tag⟩
               generalize WC.setRow gT (cellsOf tag).toArray = WC at *
               (try simp only [Act.put])
               repeat ((first | refine qtR0 ?_ | refine qtS ?_); go_frame)
               skip)
            | (refine seqT_done ?_
               go_wp2_with fail
               go_meet
               exact ⟨gT, rfl, rfl, SE.out, hL.out, zl⟩))
        case rest =>
          obtain ⟨gT, rfl, rfl, x6, kT, zT⟩ := hcut
          have ep : Ep w wc r 1 2 AA x gT tag := ⟨by rw [← hev.out ()]; exact ENV.out wc x6, b5.out.ext x6, kT⟩
          have lp6 := LP5.out.ext x6
          have KM6 : Hid (Cb wc gM 78 (maC C)) := KM5.out.ext x6
          obtain ⟨a, ha, la, _, _, _, _⟩ := bi.out 1 (by omega)
          obtain ⟨b, hb, _, _, _, _, _⟩ := bi.out 2 (by omega)
          have SN := Lib.hid (lp6.send ep (by omega) ha la hb (by omega) (by omega) (by omega) (now := (k : Int) * 10) (by omega) (by omega) hGH.out)
          have AFT := fun f' s er => bi.out.after (f' := f') (i := 1) (j := 2) (by omega) (by omega) (by omega) ha hb (root := root) (tag := tag) (x := x) (s := s) (er := er) (by omega) (by omega) hTM.out
          replace AFT := Lib.hid AFT
          rw [← hev.out ()] at SN
          have kE := ENV.out wc x6
          have kT1 := kT.1
          have kE' := Lib.hid kE
          clear ep lp6 ha la hb x6 kT zT ENV TG LK LP5 KM5 b5
          go_wp2_with (first | ((with_reducible refine wpList_load_rowW (o := ⟨some 59, _, _, _, _, _⟩) ?_ 37 _ rfl r ?_ 37 ev.toArray (0, 0) _ ?_ Tryd.underlying37 ?_ ?_ ?_); (· rfl); (· rfl); (· exact kE); (· rfl); (· rw [S_ev]; rfl); go_frame) | ((with_reducible refine wpList_load_rowW (o := ⟨some 60, _, _, _, _, _⟩) ?_ 23 _ rfl gT ?_ 23 (cellsOf tag).toArray (0, 0) _ ?_ Tryd.underlying23 ?_ ?_ ?_); (· rfl); (· rfl); (· exact kT1); (· rfl); (· rw [S_tag]; rfl); go_frame))
          refine SN.out.mono ?_
          rintro e w7 ⟨s, er, f7, rfl, sok, lp7, t7, st⟩
          have AF := AFT.out f7 s er st
          have L_s := Sm.C_len sok
          have O_s := one_cells s.one
          generalize s.C = SC at *
          have S_s : SC.toArray.size = 68 := by rw [List.size_toArray, L_s]
          have kS : (w7.alloc (.cells ZS.toArray 67)).heap[w7.heap.size]? = some (.cells ZS.toArray 67 (0, 0)) := heap_alloc_new _ _
          have X8 : Ext w7 ((w7.alloc (.cells ZS.toArray 67)).setRow w7.heap.size SC.toArray) := Ext.newRow _ _ _
          have N8 : Hid (Lp w ((w7.alloc (.cells ZS.toArray 67)).setRow w7.heap.size SC.toArray) g root f7 (N + 1) ∧ Cb ((w7.alloc (.cells ZS.toArray 67)).setRow w7.heap.size SC.toArray) gM 78 (maC C) ∧ Cb ((w7.alloc (.cells ZS.toArray 67)).setRow w7.heap.size SC.toArray) r 37 ev) := ⟨lp7.ext X8, (t7.cb KM6.out rfl).ext X8, (t7.cb kE'.out rfl).ext X8⟩
          clear SN AFT st lp7 t7 kE kT1 kE' KM6 sok X8
          go_upto_region 15 with (first
            | (refine wpList_store_row rfl 67 _ _ rfl w7.heap.size SC.toArray rfl rfl 67 ZS.toArray kS (by rw [S_s]; rfl) (by rw [S_s, S_ZS]) O_s ?_; simp only [Act.put]))
          refine wp_gen (fun W => Lp w W g root f7 (N + 1) ∧ Cb W gM 78 (maC C) ∧ Cb W r 37 ev) N8.out ?_
          clear N8 kS
          rintro w8 ⟨lp8, km8, ke8⟩
          rcases AF with ⟨rfl, bi8⟩ | ⟨rfl, hC8, bi8⟩
          · have LP8 := Lib.hid lp8
            have KM8 := Lib.hid km8
            replace bi8 := Lib.hid bi8
            clear lp8 km8 ke8 bi
            go_wp2_with fail
            go_loopw [14] (fun nv wr => ∃ n : Nat, n ≤ 3 ∧ nv = .int .i64 (n : Int) ∧ Lp w wr g root f7 (N + 1) ∧ Cb wr gM 78 (maC C)) (fun nv _ => 3 - (intOf nv).toNat)
            case atStart => exact ⟨0, by omega, rfl, LP8.out, KM8.out⟩
            case round =>
              obtain ⟨n, hn3, rfl, lpn, kmn⟩ := hrel
              clear LP8 KM8
              by_cases hlt3 : n < 3
              · have hj1 : IntKind.i64.wrap ((n : Int) + 1) = (n : Int) + 1 := IntWalk.i64_in _ (by omega)
                have w3 : (n : Int) < 3 := by omega
                have w0 : (0 : Int) ≤ (n : Int) := by omega
                obtain ⟨a, ha, _, _, _, La, _⟩ := bi8.out n hlt3
                have ML := Lib.hid (mails_ok lpn.ry ha (by omega))
                rw [La] at ML
                have KN : Hid (∀ W, Ext wr W → Lp w W g root f7 (N + 1) ∧ Cb W gM 78 (maC C)) := fun W x => ⟨lpn.ext x, kmn.ext x⟩
                clear lpn kmn ha La
                go_wp2_with fail
                refine ML.out.mono ?_
                rintro e wq ⟨q8, L8, rfl, _, _, _, _, x8⟩
                obtain ⟨lp8, km8⟩ := KN.out wq x8
                have c8 := km8.cell (maC_at C hlt3)
                replace lp8 := Lib.hid lp8
                replace km8 := Lib.hid km8
                clear ML KN x8
                go_wp2_with fail
                go_round
                case rel => exact ⟨n + 1, by omega, by go_num, lp8.out, km8.out⟩
                case measure => simp [intOf]; omega
              · obtain rfl : n = 3 := by omega
                rw [show ((3 : Nat) : Int) = 3 from rfl]
                replace lpn := Lib.hid lpn
                replace kmn := Lib.hid kmn
                have hBI : Hid (BoI f7 (((k + 1 : Nat) : Int) * 10) C) := by
                  unfold Hid
                  rw [show ((k + 1 : Nat) : Int) * 10 = (k : Int) * 10 + 10 by omega]
                  exact bi8.out
                go_wp2_with fail
                go_round
                case rel => exact ⟨k + 1, N + 1, f7, C, by omega, by go_num, lpn.out, by omega, kmn.out, hBI.out⟩
                case measure => simp [intOf]; omega
          · have cT := ke8.cell cv1.out
            have cM := km8.cell (maC_at C (n := 2) (by omega))
            have fM := km8.frozen 2
            have hjc : IntKind.i64.wrap ((C 2 : Int) + 1) = ((C 2 + 1 : Nat) : Int) := by rw [IntWalk.i64_in _ (by omega)]; rfl
            have km9 := km8.setCell (o := 2) (v := .int .i64 ((C 2 + 1 : Nat) : Int))
            rw [maC_inc C (by omega)] at km9
            have gr : w8.grownBy (w8.setCell ⟨gM, 2, none⟩ (.int .i64 ((C 2 + 1 : Nat) : Int))) (some gM) := (World.grownBy.refl w8 _).set _ _
            have LP9 : Hid (Lp w (w8.setCell ⟨gM, 2, none⟩ (.int .i64 ((C 2 + 1 : Nat) : Int))) g root f7 (N + 1)) := lp8.turn km8 (by decide) gr gMw
            have KM9 := Lib.hid km9
            replace bi8 := Lib.hid bi8
            clear lp8 km8 ke8 bi km9 gr
            go_upto_region 19 with fail
            refine wp_gen (fun W => Lp w W g root f7 (N + 1) ∧ Cb W gM 78 (maC (inc C 2))) ⟨LP9.out, KM9.out⟩ ?_
            clear LP9 KM9 cT cM fM hjc
            rintro w9 ⟨lp9, km9⟩
            have LP9 := Lib.hid lp9
            have KM9 := Lib.hid km9
            clear lp9 km9
            go_wp2_with fail
            go_loopw [14] (fun nv wr => ∃ n : Nat, n ≤ 3 ∧ nv = .int .i64 (n : Int) ∧ Lp w wr g root f7 (N + 1) ∧ Cb wr gM 78 (maC (inc C 2))) (fun nv _ => 3 - (intOf nv).toNat)
            case atStart => exact ⟨0, by omega, rfl, LP9.out, KM9.out⟩
            case round =>
              obtain ⟨n, hn3, rfl, lpn, kmn⟩ := hrel
              clear LP9 KM9
              by_cases hlt3 : n < 3
              · have hj1 : IntKind.i64.wrap ((n : Int) + 1) = (n : Int) + 1 := IntWalk.i64_in _ (by omega)
                have w3 : (n : Int) < 3 := by omega
                have w0 : (0 : Int) ≤ (n : Int) := by omega
                obtain ⟨a, ha, _, _, _, La, _⟩ := bi8.out n hlt3
                have ML := Lib.hid (mails_ok lpn.ry ha (by omega))
                rw [La] at ML
                have KN : Hid (∀ W, Ext wr W → Lp w W g root f7 (N + 1) ∧ Cb W gM 78 (maC (inc C 2))) := fun W x => ⟨lpn.ext x, kmn.ext x⟩
                clear lpn kmn ha La
                go_wp2_with fail
                refine ML.out.mono ?_
                rintro e wq ⟨q8, L8, rfl, _, _, _, _, x8⟩
                obtain ⟨lp8, km8⟩ := KN.out wq x8
                have c8 := km8.cell (maC_at (inc C 2) hlt3)
                replace lp8 := Lib.hid lp8
                replace km8 := Lib.hid km8
                clear ML KN x8
                go_wp2_with fail
                go_round
                case rel => exact ⟨n + 1, by omega, by go_num, lp8.out, km8.out⟩
                case measure => simp [intOf]; omega
              · obtain rfl : n = 3 := by omega
                rw [show ((3 : Nat) : Int) = 3 from rfl]
                replace lpn := Lib.hid lpn
                replace kmn := Lib.hid kmn
                have hBI : Hid (BoI f7 (((k + 1 : Nat) : Int) * 10) (inc C 2)) := by
                  unfold Hid
                  rw [show ((k + 1 : Nat) : Int) * 10 = (k : Int) * 10 + 10 by omega]
                  exact bi8.out
                go_wp2_with fail
                go_round
                case rel => exact ⟨k + 1, N + 1, f7, (inc C 2), by omega, by go_num, lpn.out, by omega, kmn.out, hBI.out⟩
                case measure => simp [intOf]; omega
    · obtain rfl : k = sn := by omega
      have X := Lib.hid lp.xt
      clear lp km bi
      go_wp2_with fail
      go_ret
      exact ⟨rfl, X.out⟩
end Go.Proofs.YtbnjmmefnjoofaaDoor
