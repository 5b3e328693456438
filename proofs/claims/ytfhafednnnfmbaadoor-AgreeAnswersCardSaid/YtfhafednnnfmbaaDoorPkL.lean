import Derived.Test.YtfhafednnnfmbaaDoorPkU
import Derived.Test.YtfhafednnnfmbaaDoorPkN
import Derived.Test.YtfhafednnnfmbaaDoorMult7
import Derived.Test.YtfhafednnnfmbaaDoorBase
import Derived.Maps.AppendAt
import Derived.Deep.RegionHeld3
import Derived.OwnWalk
import Derived.Deep.DeepMust
import Derived.Test.YtfhafednnnfmbaaDoorSeq
section
/-
  octets.Same tells whether two rows of bytes are the same.
-/
namespace Go.Proofs.YtfhafednnnfmbaaDoor
open Go.ChangeShapes Go.WideShapes Go.ChangeAt Go.RowKit Go.Deep

set_option maxHeartbeats 400000 in
theorem same_calls {A A' : Option Addr} {n c n' c' : Nat} {xs ys : List UInt8} {w : World} (h : Bs w A n c xs) (h' : Bs w A' n' c' ys) :
    Calls Tryd.prog 30 #[.slice A n c, .slice A' n' c'] w fun e w' => e = .returned (.bool (decide (xs = ys))) ∧ ∃ k, w' = w.drewN k := by
  have h1 := h.le
  have h2 := h.cap
  have h3 := h'.le
  have h4 := h'.cap
  by_cases hn : n = n'
  · subst hn
    have hl : xs.length = ys.length := h.len.trans h'.len.symm
    have hs : Hid (((differ xs ys n : Int) == 0) = decide (xs = ys)) := by
      unfold Hid
      rw [Bool.eq_iff_iff, decide_eq_true_iff, beq_iff_eq, Int.natCast_eq_zero, differ_zero, same_iff hl, h.len]
    have hl' := Lib.hid hl
    clear hl
    go_enter Tryd.func30, Tryd.ntmps30
    go_wp2
    go_loopw [5, 14] (fun d i wr => ∃ k m : Nat, k ≤ n ∧ i = .int .i64 k ∧ d = .int .u8 (differ xs ys k) ∧ wr = w.drewN m) (fun _ i _ => n - (intOf i).toNat)
    case atStart => exact ⟨0, 0, Nat.zero_le _, rfl, rfl, rfl⟩
    case round =>
      obtain ⟨k, m, hk, rfl, rfl, rfl⟩ := hrel
      by_cases hlt : k < n
      · obtain ⟨b, off, rfl, hb, hc⟩ := h.pos (by omega)
        obtain ⟨b', off', rfl, hb', hc'⟩ := h'.pos (by omega)
        have g1 := hc k hlt
        have g2 := hc' k hlt
        have hu := Lib.hid (u8_differ xs ys k)
        clear hc hc'
        go_wp2
        go_quiet (fail)
        go_wp2
        go_roundw
        case rel => exact ⟨k + 1, _, by omega, by go_num, by rw [← hu.out], rfl⟩
        case measure => simp [intOf]; omega
      · obtain rfl : k = n := by omega
        go_wp2
        go_ret
        exact ⟨ret_bool hs.out, m, rfl⟩
  · have hb : ((n : Int) != (n' : Int)) = true := by rw [bne_iff_ne]; omega
    go_enter Tryd.func30, Tryd.ntmps30
    go_wp2
    go_ret
    refine ⟨?_, 0, rfl⟩
    have : xs ≠ ys := fun e => hn (by rw [← h.len, ← h'.len, e])
    simp [this]

theorem same_ext {A A' : Option Addr} {n c n' c' : Nat} {xs ys : List UInt8} {w : World} {r : Bool} (h : Bs w A n c xs) (h' : Bs w A' n' c' ys) (hr : decide (xs = ys) = r) :
    Calls Tryd.prog 30 #[.slice A n c, .slice A' n' c'] w fun e w' => e = .returned (.bool r) ∧ Ext w w' :=
  (same_calls h h').mono fun _ _ ⟨he, k, hk⟩ => ⟨by rw [he, hr], by rw [hk]; exact (Ext.refl w).drewN k⟩
end Go.Proofs.YtfhafednnnfmbaaDoor
end

section
/-
  keys.Common; the document's.
-/
namespace Go.Proofs.YtfhafednnnfmbaaDoor
open Go.ChangeShapes Go.WideShapes Go.ChangeAt Go.RowKit Go.Deep
set_option maxRecDepth 100000

theorem comL_len (s p : List UInt8) : (comL s p).length = 32 := kL_len _
theorem zero_built : Tryd.prog.built 23 [] = some (cellsOf (List.replicate 32 0)).toArray := by rw [zeros32_cells]; exact zeros32_built


set_option maxHeartbeats 4000000 in
theorem common_calls {w : World} {s q p : List UInt8} (hs : s.length = 32) (hq : q.length = 32) (hp : p.length = 32) {tp : TypeId × Nat × Nat} (hP : Gp w tp) :
    Calls Tryd.prog 22 #[.agg (cellsOf (s ++ q)).toArray, .agg (cellsOf p).toArray] w fun e w' => e = .returned (.tuple #[.agg (cellsOf (comL s p)).toArray, .int .i64 (comE (comL s p))]) ∧ Ext w w' := by
  have MU : Hid (∀ W, Ext w W → Calls Tryd.prog 29 #[.agg (cellsOf s).toArray, .agg (cellsOf p).toArray] W fun e w' => e = .returned (.agg (cellsOf (comL s p)).toArray) ∧ Ext W w') := fun W e => mult_calls hs hp (hP.ext e)
  have L_rk := comL_len s p
  have hE : Hid (comE (comL s p) = if comL s p = List.replicate 32 0 then 12 else 0) := rfl
  clear hP
  generalize comL s p = rk at *
  generalize hce : comE rk = ce at *
  replace hce := Lib.hid hce
  have S_rk : (cellsOf rk).toArray.size = 32 := by simp [cellsOf_len, L_rk]
  have O_rk := cellsOf_one rk
  have S_s : (cellsOf s).length = 32 := by simp [cellsOf_len, hs]
  have S_p : (cellsOf p).toArray.size = 32 := by simp [cellsOf_len, hp]
  have S_o : (cellsOf (s ++ q)).toArray.size = 64 := by simp [cellsOf_len, hs, hq]
  have hal : ∀ w, (zeroValue 23).run Tryd.prog w = .ok (.agg (cellsOf (List.replicate 32 0)).toArray) w := fun w => by rw [zeros32_cells]; exact key_alloc w
  have hbz := Lib.hid zero_built
  have L_zk : (List.replicate 32 (0 : UInt8)).length = 32 := rfl
  generalize List.replicate 32 (0 : UInt8) = zk at *
  have S_zk : (cellsOf zk).toArray.size = 32 := by simp [cellsOf_len, L_zk]
  have O_zk := cellsOf_one zk
  have B0 : Hid (∀ s', Ext (((w.alloc (Obj.cells (cellsOf (s ++ q)).toArray 25)).alloc (Obj.cells (cellsOf p).toArray 23)).alloc (Obj.cells (cellsOf zk).toArray 23)) s' → Kp s' w.heap.size (s ++ q) ∧ Ky s' (w.heap.size + 1) p ∧ Ky s' (w.heap.size + 1 + 1) zk ∧ Ext w s') := fun s' e => ⟨Kp.ext ⟨heap_alloc30 _ _ _ _, by rw [List.length_append, hs, hq]⟩ e, Ky.ext ⟨heap_alloc31 _ _ _ _, hp⟩ e, Ky.ext ⟨heap_alloc32 _ _ _ _, L_zk⟩ e, ((((Ext.refl w).alloc _).alloc _).alloc _).trans e⟩
  go_enter Tryd.func22, Tryd.ntmps22
  go_upto_region 1 with fail
  refine wp_gen (fun W => ∀ s', Ext W s' → Kp s' w.heap.size (s ++ q) ∧ Ky s' (w.heap.size + 1) p ∧ Ky s' (w.heap.size + 1 + 1) zk ∧ Ext w s') B0.out ?_
  clear B0
  rintro w0 P0
  replace P0 := Lib.hid P0
  have q0 := Lib.hid (P0.out _ (Ext.refl _)).1
  have q1 := Lib.hid (P0.out _ (Ext.refl _)).2.1
  go_wp2_with (first
    | (refine wpList_load_mid rfl (g := w.heap.size) (off := 0) (ys := cellsOf s) rfl rfl q0.out.at0 rfl rfl (by rw [S_s]; rfl) ?_; simp only [Act.put, List.setIfInBounds_toArray, List.set_cons_zero, List.set_cons_succ])
    | (refine wpList_load_row rfl 23 _ rfl (w.heap.size + 1) rfl 23 (cellsOf p).toArray (0, 0) _ q1.out.1 rfl rfl (by rw [S_p]; rfl) ?_; simp only [Act.put, List.setIfInBounds_toArray, List.set_cons_zero, List.set_cons_succ]))
  refine (MU.out _ (P0.out _ (Ext.refl _)).2.2.2).mono ?_
  rintro e u_ ⟨rfl, e1⟩
  have a1 : Hid ((u_.alloc (Obj.cells (cellsOf zk).toArray 23)).heap[u_.heap.size]? = some (.cells (cellsOf zk).toArray 23 (0, 0))) := heap_alloc_new _ _
  have E_ : Ext w0 ((u_.alloc (Obj.cells (cellsOf zk).toArray 23)).setRow u_.heap.size (cellsOf rk).toArray) := e1.trans (below_setRow ((Ext.refl u_).alloc _) (Nat.le_refl _) _)
  go_upto_region 2 with (refine wpList_store_row rfl 23 _ _ rfl u_.heap.size (cellsOf rk).toArray rfl rfl 23 _ a1.out (by rw [S_rk]; rfl) (by rw [S_rk, S_zk]) O_rk ?_; simp only [Act.put])
  obtain ⟨g6, hg_⟩ : ∃ g, g = u_.heap.size := ⟨_, rfl⟩
  refine wp_gen (fun W => Ky W g6 rk ∧ Ky W (w.heap.size + 1 + 1) zk ∧ Ext w W) ⟨⟨by rw [hg_]; exact setRow_heap _ _ _ _ _ _ a1.out, L_rk⟩, (P0.out _ E_).2.2⟩ ?_
  rw [← hg_]
  clear hg_ a1 E_ e1 q0 q1 P0 MU
  rintro w1 ⟨k1, z1, x1⟩
  have S1 : Hid (∀ (W : World), Ext w1 W → Ky W (g6 + 1) zk → True) := fun _ _ _ => trivial
  clear S1
  have n1 : Hid (Ky (w1.alloc (Obj.cells (cellsOf zk).toArray 23)) w1.heap.size zk) := ⟨heap_alloc_new _ _, L_zk⟩
  have m1 : Hid (Ext w1 (w1.alloc (Obj.cells (cellsOf zk).toArray 23))) := (Ext.refl _).alloc _
  obtain ⟨g7, hg_⟩ : ∃ g, g = w1.heap.size := ⟨_, rfl⟩
  go_upto_region 3 with fail
  refine wp_gen (fun W => Ky W g6 rk ∧ Ky W g7 zk ∧ Ky W (w.heap.size + 1 + 1) zk ∧ Ext w W) ⟨k1.ext m1.out, by rw [hg_]; exact n1.out, z1.ext m1.out, x1.trans m1.out⟩ ?_
  rw [← hg_]
  clear hg_ n1 m1 k1 z1 x1
  rintro w2 ⟨k1, n1, z1, x1⟩
  have Q2 : Hid (∀ s', Ext w2 s' → Ky s' g6 rk ∧ Ky s' g7 zk ∧ Ky s' (w.heap.size + 1 + 1) zk ∧ Ext w s') := fun s' e => ⟨k1.ext e, n1.ext e, z1.ext e, x1.trans e⟩
  have SA : Hid (∀ W, Ky W g6 rk → Ky W g7 zk → Calls Tryd.prog 30 #[.slice (some ⟨g6, 0, none⟩) 32 32, .slice (some ⟨g7, 0, none⟩) 32 32] W fun e w' => e = .returned (.bool (decide (rk = zk))) ∧ Ext W w') := fun W h1 h2 => by
    refine (same_calls h1.bs h2.bs).mono ?_
    rintro e w' ⟨he, k, rfl⟩
    exact ⟨he, (Ext.refl W).drewN k⟩
  clear k1 n1 z1 x1
  obtain ⟨b, hb⟩ : ∃ b, b = decide (rk = zk) := ⟨_, rfl⟩
  rw [← hb] at SA
  replace hb := Lib.hid (fun _ : Unit => hb)
  refine wp_region_free (R := Ext) Ext.refl (fun _ _ _ => Ext.trans) [0, 1, 2] [] [0, 0, 3] [true, true, true] [(0, 13, 128), (0, 14, 256), (3, 15, 24576)] (by kernel_rfl) (by kernel_rfl) (by kernel_rfl) (by kernel_rfl) ?_
  refine free_det (fun _ => Ext.refl _) _ rfl (v := ?_) (d := 13) rfl rfl ?_ ?_
  rotate_left
  · intro a_ w_ hev hR hk
    have e6 : a_.eval (.tmp 6) = _ := hk 6 rfl
    clear hk
    generalize a_.eval = ev at *
    obtain ⟨hev1, hev2, hev3⟩ := hev
    go_simp
    (try with_reducible rfl)
  refine free_det (fun _ => Ext.refl _) _ rfl (v := ?_) (d := 14) rfl rfl ?_ ?_
  rotate_left
  · intro a_ w_ hev hR hk
    have e7 : a_.eval (.tmp 7) = _ := hk 7 rfl
    clear hk
    generalize a_.eval = ev at *
    obtain ⟨hev1, hev2, hev3⟩ := hev
    go_simp
    (try with_reducible rfl)
  refine free_step _ rfl (fun u _ => u = .bool b) (d := 15) rfl (fun _ _ _ h _ => h) rfl ?_ ?_
  · intro a_ w_ hev hR hk K1 hK1
    have e12 : a_.eval (.tmp 12) = _ := hk 12 rfl
    have e13 : a_.eval (.tmp 13) = _ := hk 13 rfl
    clear hk
    have f12 := ev_get.trans e12
    have f13 := ev_get.trans e13
    go_simp
    refine (SA.out _ (Q2.out w_ (Ext.trans (Ext.refl _).drew hR)).1 (Q2.out w_ (Ext.trans (Ext.refl _).drew hR)).2.1).mono ?_
    rintro e_ w2_ ⟨rfl, x_⟩
    exact hK1.out _ _ x_ rfl
  intro v_ w3 hR hV_ hN_
  obtain ⟨hv2, hv1, hv0, _⟩ := hV_
  replace hv0 : v_ 0 = _ := hv0
  replace hv1 : v_ 1 = _ := hv1
  replace hv2 : v_ 2 = _ := hv2
  dsimp only [putE, dOpt]
  clear hN_
  rw [hv0, hv1, hv2]
  simp only [Act.put, List.setIfInBounds_toArray, List.set_cons_zero, List.set_cons_succ]
  clear hv0 hv1 hv2
  have Q3 := Lib.hid (Q2.out w3 ((Ext.refl _).drew.trans hR))
  refine any_nil (by kernel_rfl) ?_
  clear hR Q2 SA
  have k2 := Lib.hid Q3.out.1
  have z2 := Lib.hid Q3.out.2.2.1
  have x2 := Lib.hid Q3.out.2.2.2
  clear Q3
  by_cases hz : rk = zk
  · have hbt : b = true := by rw [hb.out ()]; exact decide_eq_true hz
    have hE2 : Hid (ce = 12) := by unfold Hid; rw [hE.out, if_pos hz]
    clear hE hce hb
    subst hbt
    have hz' : Hid (cellsOf rk = cellsOf zk) := by unfold Hid; rw [hz]
    clear hz
    go_wp2_with (first
      | (refine wpList_build_as rfl _ _ rfl (cellsOf zk).toArray (by simp only [List.map_toArray, List.map_nil]; exact hbz.out) ?_; simp only [Act.put, List.setIfInBounds_toArray, List.set_cons_zero, List.set_cons_succ])
      | (refine wpList_store_row rfl 23 _ _ rfl (w.heap.size + 1 + 1) (cellsOf zk).toArray rfl rfl 23 _ z2.out.1 (by rw [S_zk]; rfl) rfl O_zk ?_; simp only [Act.put]))
    (try simp only [Exit.inBlock, Exit.then])
    refine bodyPost_ret (v := .tuple #[.agg (cellsOf zk).toArray, .int .i64 12]) ?_ rfl ?_
    · exact results_row_tmp rfl _ _ (w.heap.size + 1 + 1) 23 (cellsOf zk).toArray (0, 0) _ _ rfl rfl (setRow_heap _ _ _ _ _ _ z2.out.1) rfl rfl (by rw [S_zk]; rfl)
    exact ⟨by rw [hE2.out, hz'.out], below_setRow x2.out (by omega) _⟩
  · have hbt : b = false := by rw [hb.out ()]; exact decide_eq_false hz
    have hE2 : Hid (ce = 0) := by unfold Hid; rw [hE.out, if_neg hz]
    clear hE hce hb hz
    subst hbt
    go_wp2_with (first
      | (refine wpList_load_row rfl 23 _ rfl g6 rfl 23 (cellsOf rk).toArray (0, 0) _ k2.out.1 rfl rfl (by rw [S_rk]; rfl) ?_; simp only [Act.put, List.setIfInBounds_toArray, List.set_cons_zero, List.set_cons_succ])
      | (refine wpList_store_row rfl 23 _ _ rfl (w.heap.size + 1 + 1) (cellsOf rk).toArray rfl rfl 23 _ z2.out.1 (by rw [S_rk]; rfl) (by rw [S_rk, S_zk]) O_rk ?_; simp only [Act.put]))
    (try simp only [Exit.inBlock, Exit.then])
    refine bodyPost_ret (v := .tuple #[.agg (cellsOf rk).toArray, .int .i64 0]) ?_ rfl ?_
    · exact results_row_tmp rfl _ _ (w.heap.size + 1 + 1) 23 (cellsOf rk).toArray (0, 0) _ _ rfl rfl (setRow_heap _ _ _ _ _ _ z2.out.1) rfl rfl (by rw [S_rk]; rfl)
    exact ⟨by rw [hE2.out], below_setRow x2.out (by omega) _⟩

end Go.Proofs.YtfhafednnnfmbaaDoor
end

section
/-
  A row of bytes of the call's own that is appended to ('Own'); what append does with it. No conditions.
-/
namespace Go.Proofs.YtfhafednnnfmbaaDoor
open Go.ChangeShapes Go.WideShapes Go.ChangeAt Go.RowKit Go.Deep
set_option maxRecDepth 100000

def u8v (x : UInt8) : Value := .int .u8 (x.toNat : Int)
theorem u8v_bt {xs : List UInt8} {j : Nat} (h : j < xs.length) : (xs.map u8v)[j]? = some (.int .u8 (bt xs j : Int)) := by simp [u8v, bt, List.getD, h]

/-- The slice '.slice A n c' is the call's own row (in a block from B on), and holds xs. -/
def Own (B : Nat) (w : World) (A : Option Addr) (n c : Nat) (xs : List UInt8) : Prop := w.ownsRow B 5 1 (.slice A n c) n (xs.map u8v)

section
variable {w w' : World} {B : Nat} {A : Option Addr} {n c : Nat} {xs : List UInt8}
theorem Own.nil (B : Nat) (w : World) : Own B w none 0 0 [] := World.ownsRow_nil w B _ 1
theorem Own.made (w : World) (B cap : Nat) (hB : B ≤ w.heap.size) (hm : cap ≤ 281474976710656) : Own B (w.alloc (.cells (madeCells #[.int .u8 0] cap) 5)) (some ⟨w.heap.size, 0, none⟩) 0 cap [] :=
  World.ownsRow_made w _ cap hB (by unfold maxLen; omega) (by rw [size_madeCells, Nat.mul_one])
theorem Own.alloc (h : Own B w A n c xs) (o : Obj) : Own B (w.alloc o) A n c xs := World.ownsRow.alloc h o
theorem Own.drew (h : Own B w A n c xs) : Own B w.drew A n c xs := h
theorem Own.len (h : Own B w A n c xs) : xs.length = n := by simpa using h.1
theorem Own.bs (h : Own B w A n c xs) : Bs w A n c xs := by
  have hl := h.len
  rcases h.2 with ⟨hv, hn⟩ | ⟨g, cap, cur, hv, hb, hg, hnc, hcm, hcs, htk⟩
  · injection hv with h1 h2 h3
    subst h1 h2 h3
    exact ⟨hl, Nat.le_refl _, Nat.zero_le _, fun h => absurd h (by omega)⟩
  · injection hv with h1 h2 h3
    subst h1 h3
    refine ⟨hl, hnc, hcm, fun h0 => ⟨g, 0, rfl, ?_, fun j hj => ?_⟩⟩
    · rcases Nat.lt_or_ge g w.heap.size with h | h
      · exact h
      · rw [Array.getElem?_eq_none h] at hg; cases hg
    · rw [Nat.zero_add]
      have e : (xs.map u8v)[j]? = cur[j]? := by
        rw [← htk, List.getElem?_take, if_pos (by omega), Array.getElem?_toList]
      rw [u8v_bt (by omega)] at e
      simp [World.cell?, hg, ← e]
theorem Own.ext (h : Own B w A n c xs) (he : Ext w w') : Own B w' A n c xs := by
  refine ⟨h.1, ?_⟩
  rcases h.2 with h | ⟨g, cap, cur, hv, hb, hg, r⟩
  · exact .inl h
  · exact .inr ⟨g, cap, cur, hv, hb, (he.block g (by
      rcases Nat.lt_or_ge g w.heap.size with h | h
      · exact h
      · rw [Array.getElem?_eq_none h] at hg; cases hg)).trans hg, r⟩
theorem Own.ge (h : Own B w A n c xs) : ∀ g, Value.ownBlock (.slice A n c) = some g → B ≤ g := fun g hg => (World.ownsRow.lt h g hg).1
theorem Own.kept {row : Option Nat} (h : Own B w A n c xs) (hg : w.grownBy w' row) (hne : Value.ownBlock (.slice A n c) = none ∨ Value.ownBlock (.slice A n c) ≠ row) : Own B w' A n c xs := World.ownsRow.kept h hg hne
end

theorem Own.empty (w : World) (B : Nat) (hB : B ≤ w.heap.size) : Own B (w.alloc (.cells #[] 5)) (some ⟨w.heap.size, 0, none⟩) 0 0 [] :=
  World.ownsRow_lit (e := 5) (size := 1) w #[] 0 hB (Nat.zero_le _) rfl

theorem make0 (n : Nat) (hn : n ≤ 281474976710656) (w : World) :
    (Instr.makeSlice 45 (.int .i64 0) (.int .i64 (n : Int))).run Tryd.prog w = .ok (.slice (some ⟨w.heap.size, 0, none⟩) 0 n) (w.alloc (.cells (madeCells #[.int .u8 0] n) 5)) := by
  obtain ⟨i, hi, hz0, hz1, hz2⟩ := info_parts info8
  have h := run_make (P := Tryd.prog) w 45 5 i (.int .u8 0) Tryd.underlying45 hi hz0 .i64 .i64 0 (n : Int) (by omega) (by omega) (by rw [hz2]; omega) (by omega)
  simpa [hz1, Value.cells] using h

/-- 'append(v, s...)' on a row of the call's own. -/
theorem append_bs {w : World} {B : Nat} {A A' : Option Addr} {n c m c' : Nat} {xs ys : List UInt8} (ty : TypeId) (h : Own B w A n c xs) (hr : Bs w A' m c' ys) (hm : n + m ≤ 140737488355328) (hB : B ≤ w.heap.size) :
    ∃ A'' c'' w', (Builtin.append_ #[45, 45] ty #[.slice A n c, .slice A' m c']).run Tryd.prog w = .ok (.slice A'' (n + m) c'') w' ∧ Own B w' A'' (n + m) c'' (xs ++ ys) ∧ w.grownBy w' (Value.ownBlock (.slice A n c)) ∧
      (Value.ownBlock (.slice A'' (n + m) c'') = Value.ownBlock (.slice A n c) ∨ Value.ownBlock (.slice A'' (n + m) c'') = some w.heap.size) := by
  obtain ⟨i, hi, hz0, hz1, hz2⟩ := info_parts info8
  have form : ∀ (v' : Value) (w' : World), w'.ownsRow B 5 1 v' (n + m) (xs.map u8v ++ ys.map u8v) → ∃ A'' c'', v' = .slice A'' (n + m) c'' ∧ Own B w' A'' (n + m) c'' (xs ++ ys) := by
    intro v' w' ho
    rcases ho.2 with ⟨hv, hn⟩ | ⟨g, cap, cur, hv, _⟩
    · refine ⟨none, 0, by rw [hv, hn], ?_⟩
      rw [hv] at ho
      unfold Own
      rw [List.map_append]
      rw [show (Value.slice none (n + m) 0) = .slice none 0 0 by rw [hn]]
      exact ho
    · refine ⟨_, _, hv, ?_⟩
      rw [hv] at ho
      unfold Own
      rw [List.map_append]
      exact ho
  rcases A' with _ | a
  · have hm0 : m = 0 := by
      rcases Nat.eq_zero_or_pos m with h0 | h0
      · exact h0
      · obtain ⟨b, off, e, _⟩ := hr.pos h0
        cases e
    subst hm0
    have hy := hr.zero
    subst hy
    refine ⟨A, c, w, ?_, by simpa using h, ⟨rfl, rfl, rfl, Nat.le_refl _, fun _ _ _ => rfl⟩, .inl rfl⟩
    rcases h.2 with ⟨hv, hn⟩ | ⟨g, cap, cur, hv, _, _, hnc, _⟩
    · rw [hv]
      subst hn
      injection hv with _ _ h3
      subst h3
      simp [Builtin.append_, run_underlying Tryd.underlying45, sizeOf, typeInfo, hi, Builtin.lenOf, Builtin.firstCells]
      exact Eq.symm ‹A = none›
    · rw [hv]
      injection hv with _ _ h3
      subst h3
      simp [Builtin.append_, run_underlying Tryd.underlying45, sizeOf, typeInfo, hi, Builtin.lenOf, Builtin.firstCells, hnc, storeCells]
      exact Eq.symm ‹A = some _›
  · obtain ⟨v', w', hrun, ho, hg, _, hown⟩ := run_append_own_at (P := Tryd.prog) w B 45 ty 5 i (.int .u8 0) 1 1 Tryd.underlying45 hi hz0 hz1 hz2 rfl (by decide) (.slice A n c) n (xs.map u8v) h a m c' (ys.map u8v)
      (by rw [List.length_map, hr.len, Nat.mul_one]) (fun j u hu => by
        have hj : j < ys.length := by
          rcases Nat.lt_or_ge j ys.length with h | h
          · exact h
          · simp [h] at hu
        obtain ⟨b, off, e, hb, hc⟩ := hr.pos (by have := hr.len; omega)
        injection e with e
        subst e
        have hplain : (⟨b, off, none⟩ : Addr).add j = ⟨b, off + j, none⟩ := by unfold Addr.add; split <;> simp_all
        rw [hplain, hc j (by rw [← hr.len]; exact hj), ← u8v_bt hj, hu])
      (fun u hu => by
        obtain ⟨x, _, rfl⟩ := List.mem_map.1 hu
        rfl) (by unfold maxLen; omega) (by omega) hB
    obtain ⟨A'', c'', rfl, ho'⟩ := form v' w' ho
    exact ⟨A'', c'', w', hrun, ho', hg, hown⟩

/-- The same as a law for a region's step. -/
theorem wp_append_bs {w : World} {o : Oper} {a : Act} {K : Act → World → Prop} {Q : Exit → Act → World → Prop} {B : Nat} {A A' : Option Addr} {n c m c' : Nat} {xs ys : List UInt8} {s x : Operand}
    (ho : o.op = .call { callee := .builtin .append, args := #[s, x], argTypes := #[45, 45] }) (hs : a.eval s = .slice A n c) (hx : a.eval x = .slice A' m c')
    (h : Own B w A n c xs) (hr : Bs w A' m c' ys) (hm : n + m ≤ 140737488355328) (hB : B ≤ w.heap.size)
    (hK : ∀ A'' c'' w', Own B w' A'' (n + m) c'' (xs ++ ys) → w.grownBy w' (Value.ownBlock (.slice A n c)) → Below B w w' → K (a.put o.dst (.slice A'' (n + m) c'')) w') : o.wp Tryd.prog a w K Q := by
  obtain ⟨A'', c'', w', hrun, h2, h3, h4⟩ := append_bs o.type h hr hm hB
  unfold Oper.wp execOp
  simp only [ho, resolve, invoke, builtin, Sem.run_bind, Sem.run_pure, Result.andThen_ok, List.map_toArray, List.map_cons, List.map_nil, hs, hx, hrun]
  exact hK A'' c'' w' h2 h3 ((Below.refl B w).grown h3 hB h.ge)

/-- .. and for a plain list of operations. -/
theorem wpList_append_bs {w : World} {ops : Array Oper} {rest : List Oper} {o : Oper} {a : Act} {Q : Exit → Act → World → Prop} (hgd : o.guard = none) {B : Nat} {A A' : Option Addr} {n c m c' : Nat} {xs ys : List UInt8} {s x : Operand}
    (ho : o.op = .call { callee := .builtin .append, args := #[s, x], argTypes := #[45, 45] }) (hs : a.eval s = .slice A n c) (hx : a.eval x = .slice A' m c')
    (h : Own B w A n c xs) (hr : Bs w A' m c' ys) (hm : n + m ≤ 140737488355328) (hB : B ≤ w.heap.size)
    (hK : ∀ A'' c'' w', Own B w' A'' (n + m) c'' (xs ++ ys) → w.grownBy w' (Value.ownBlock (.slice A n c)) → Below B w w' → wpList Tryd.prog ops Q rest (a.put o.dst (.slice A'' (n + m) c'')) w') : wpList Tryd.prog ops Q (o :: rest) a w :=
  wpList_plain hgd fun _ hK' => wp_append_bs ho hs hx h hr hm hB fun A'' c'' w' h2 h3 h4 => hK' _ _ (hK A'' c'' w' h2 h3 h4)
end Go.Proofs.YtfhafednnnfmbaaDoor
end

section
/-
  Slices of slices of bytes (Rw).
-/
namespace Go.Proofs.YtfhafednnnfmbaaDoor
open Go.ChangeShapes Go.WideShapes Go.ChangeAt Go.RowKit Go.Deep

/-- The slice '.slice A n c' reads as the rows l. -/
def Rw (w : World) (A : Option Addr) (n c : Nat) (l : List (List UInt8)) : Prop :=
  l.length = n ∧ n ≤ c ∧ c ≤ maxLen ∧ (0 < n → ∃ b off, A = some ⟨b, off, none⟩ ∧ b < w.heap.size ∧ ∀ j, j < n → ∃ A' n' c', w.cell? ⟨b, off + j, none⟩ = some (.slice A' n' c') ∧ Bs w A' n' c' (l.getD j []))

section
variable {w w' : World} {A : Option Addr} {n c : Nat} {l : List (List UInt8)}
theorem Rw.len (h : Rw w A n c l) : l.length = n := h.1
theorem Rw.le (h : Rw w A n c l) : n ≤ c := h.2.1
theorem Rw.cap (h : Rw w A n c l) : c ≤ 9223372036854775807 := h.2.2.1
theorem Rw.nil (w : World) : Rw w none 0 0 [] := ⟨rfl, Nat.le_refl _, Nat.zero_le _, fun h => absurd h (by omega)⟩
theorem Rw.pos (h : Rw w A n c l) (hn : 0 < n) : ∃ b off, A = some ⟨b, off, none⟩ ∧ b < w.heap.size ∧ ∀ j, j < n → ∃ A' n' c', w.cell? ⟨b, off + j, none⟩ = some (.slice A' n' c') ∧ Bs w A' n' c' (l.getD j []) := h.2.2.2 hn
theorem Rw.ext (h : Rw w A n c l) (he : Ext w w') : Rw w' A n c l :=
  ⟨h.1, h.2.1, h.2.2.1, fun hn => by
    obtain ⟨b, off, e, hb, hc⟩ := h.2.2.2 hn
    refine ⟨b, off, e, Nat.lt_of_lt_of_le hb he.size, fun j hj => ?_⟩
    obtain ⟨A', n', c', h1, h2⟩ := hc j hj
    exact ⟨A', n', c', (he.cell hb).trans h1, h2.ext he⟩⟩
end

end Go.Proofs.YtfhafednnnfmbaaDoor
end

section
/-
  A row of slices of bytes of the call's own, that is appended to. No conditions.
-/
namespace Go.Proofs.YtfhafednnnfmbaaDoor
open Go.ChangeShapes Go.WideShapes Go.ChangeAt Go.RowKit Go.Deep

theorem info22 : (Tryd.prog.info? 45).map (fun i => (i.zero, i.size, i.bytes)) = some (some (.slice none 0 0), 1, 24) := by kernel_rfl

/-- The slice '.slice D n c' is the call's own row of slices of bytes, and reads as l. -/
def OwnR (B : Nat) (w : World) (D : Option Addr) (n c : Nat) (l : List (List UInt8)) : Prop :=
  ∃ vs : List Value, w.ownsRow B 45 1 (.slice D n c) n vs ∧ l.length = n ∧
    ∀ j, j < n → ∃ A' n' c', vs[j]? = some (.slice A' n' c') ∧ Bs w A' n' c' (l.getD j []) ∧ (0 < n' → ∀ a, A' = some a → some a.block ≠ Value.ownBlock (.slice D n c))

section
variable {w w' : World} {B : Nat} {D : Option Addr} {n c : Nat} {l : List (List UInt8)}
theorem OwnR.nil (B : Nat) (w : World) : OwnR B w none 0 0 [] := ⟨[], World.ownsRow_nil w B _ 1, rfl, fun j hj => absurd hj (by omega)⟩
theorem OwnR.len (h : OwnR B w D n c l) : l.length = n := by obtain ⟨_, _, h, _⟩ := h; exact h
theorem owns_ext {e : TypeId} {size : Nat} {v : Value} {xs : List Value} (h : w.ownsRow B e size v n xs) (he : Ext w w') : w'.ownsRow B e size v n xs := by
  refine ⟨h.1, ?_⟩
  rcases h.2 with h | ⟨g, cap, cur, hv, hb, hg, r⟩
  · exact .inl h
  · exact .inr ⟨g, cap, cur, hv, hb, (he.block g (by
      rcases Nat.lt_or_ge g w.heap.size with h | h
      · exact h
      · rw [Array.getElem?_eq_none h] at hg; cases hg)).trans hg, r⟩
theorem OwnR.ext (h : OwnR B w D n c l) (he : Ext w w') : OwnR B w' D n c l := by
  obtain ⟨vs, h1, h2, h3⟩ := h
  refine ⟨vs, owns_ext h1 he, h2, fun j hj => ?_⟩
  obtain ⟨A', n', c', e1, e2, e3⟩ := h3 j hj
  exact ⟨A', n', c', e1, e2.ext he, e3⟩
theorem OwnR.ge (h : OwnR B w D n c l) : ∀ g, Value.ownBlock (.slice D n c) = some g → B ≤ g := fun g hg => by
  obtain ⟨vs, h1, _⟩ := h
  exact (World.ownsRow.lt h1 g hg).1
theorem Bs.grown {A : Option Addr} {m k : Nat} {xs : List UInt8} {row : Option Nat} (h : Bs w A m k xs) (hg : w.grownBy w' row) (hne : 0 < m → ∀ a, A = some a → some a.block ≠ row) : Bs w' A m k xs :=
  ⟨h.1, h.2.1, h.2.2.1, fun h0 => by
    obtain ⟨b, off, rfl, hb, hc⟩ := h.2.2.2 h0
    exact ⟨b, off, rfl, Nat.lt_of_lt_of_le hb hg.size, fun j hj => (World.cell?_of_block (hg.block b hb (hne h0 _ rfl))).trans (hc j hj)⟩⟩
theorem OwnR.rw (h : OwnR B w D n c l) : Rw w D n c l := by
  obtain ⟨vs, h1, h2, h3⟩ := h
  rcases h1.2 with ⟨hv, hn⟩ | ⟨g, cap, cur, hv, hb, hg, hnc, hcm, hcs, htk⟩
  · injection hv with q1 q2 q3
    subst q1 q2 q3
    exact ⟨h2, Nat.le_refl _, Nat.zero_le _, fun h => absurd h (by omega)⟩
  · injection hv with q1 q2 q3
    subst q1 q3
    refine ⟨h2, hnc, hcm, fun h0 => ⟨g, 0, rfl, ?_, fun j hj => ?_⟩⟩
    · rcases Nat.lt_or_ge g w.heap.size with h | h
      · exact h
      · rw [Array.getElem?_eq_none h] at hg; cases hg
    · rw [Nat.zero_add]
      obtain ⟨A', n', c', e1, e2, _⟩ := h3 j hj
      refine ⟨A', n', c', ?_, e2⟩
      have e : vs[j]? = cur[j]? := by rw [← htk, List.getElem?_take, if_pos (by omega), Array.getElem?_toList]
      rw [e1] at e
      simp [World.cell?, hg, ← e]
end

/-- 'append(rows, x)' on a row of the call's own: x lies in a new block of one cell. -/
theorem wp_append_rw {w : World} {o : Oper} {a : Act} {K : Act → World → Prop} {Q : Exit → Act → World → Prop} {B : Nat} {D A' : Option Addr} {n c n' c' b : Nat} {l : List (List UInt8)} {xs : List UInt8} {s x : Operand}
    (ho : o.op = .call { callee := .builtin .append, args := #[s, x], argTypes := #[52, 52] }) (hs : a.eval s = .slice D n c) (hx : a.eval x = .slice (some ⟨b, 0, none⟩) 1 1)
    (h : OwnR B w D n c l) (hc : w.cell? ⟨b, 0, none⟩ = some (.slice A' n' c')) (hr : Bs w A' n' c' xs) (hne : 0 < n' → ∀ a, A' = some a → some a.block ≠ Value.ownBlock (.slice D n c)) (hm : n ≤ 1000000) (hB : B ≤ w.heap.size)
    (hK : ∀ D'' c'' w', OwnR B w' D'' (n + 1) c'' (l ++ [xs]) → Below B w w' → K (a.put o.dst (.slice D'' (n + 1) c'')) w') : o.wp Tryd.prog a w K Q := by
  have hge := h.ge
  obtain ⟨vs, h1, h2, h3⟩ := h
  obtain ⟨i, hi, hz0, hz1, hz2⟩ := info_parts info22
  obtain ⟨v', w', hrun, ho', hg, _, hown⟩ := run_append_own_at (P := Tryd.prog) w B 52 o.type 45 i (.slice none 0 0) 1 24 Tryd.underlying52 hi hz0 hz1 hz2 rfl (by decide) (.slice D n c) n vs h1 ⟨b, 0, none⟩ 1 1 [.slice A' n' c']
    rfl (fun j u hu => by
      have : j = 0 := by
        rcases Nat.eq_zero_or_pos j with h | h
        · exact h
        · simp [show ¬ j < 1 by omega] at hu
      subst this
      simp at hu
      subst hu
      simpa [Addr.add] using hc) (fun u hu => by simp at hu; subst hu; rfl) (by unfold maxLen; omega) (by omega) hB
  have hb' : Below B w w' := (Below.refl B w).grown hg hB hge
  have fin : ∃ D'' c'', v' = .slice D'' (n + 1) c'' ∧ OwnR B w' D'' (n + 1) c'' (l ++ [xs]) := by
    rcases ho'.2 with ⟨hv, hn⟩ | ⟨g, cap, cur, hv, _⟩
    · omega
    · refine ⟨_, _, hv, vs ++ [.slice A' n' c'], by rw [← hv]; exact ho', by simp [h2], fun j hj => ?_⟩
      have hvl : vs.length = n := by simpa using h1.1
      have far : ∀ (A2 : Option Addr) (n2 c2 : Nat) (ys : List UInt8), Bs w A2 n2 c2 ys → (0 < n2 → ∀ a, A2 = some a → some a.block ≠ Value.ownBlock (.slice D n c)) → (0 < n2 → ∀ a, A2 = some a → some a.block ≠ Value.ownBlock (.slice (some ⟨g, 0, none⟩) (n + 1) cap)) := by
        intro A2 n2 c2 ys hb2 hn2 h0 a ha
        rw [← hv]
        rcases hown with e | e
        · rw [e]; exact hn2 h0 a ha
        · rw [e]
          obtain ⟨b2, off2, e2, hlt, _⟩ := hb2.pos h0
          rw [e2] at ha
          injection ha with ha
          subst ha
          intro q
          injection q with q
          simp only at q
          omega
      by_cases hjn : j < n
      · obtain ⟨A2, n2, c2, e1, e2, e3⟩ := h3 j hjn
        refine ⟨A2, n2, c2, by rw [List.getElem?_append_left (by omega)]; exact e1, ?_, far A2 n2 c2 _ e2 e3⟩
        have : (l ++ [xs]).getD j [] = l.getD j [] := by simp [List.getD, List.getElem?_append_left (show j < l.length by omega)]
        rw [this]
        exact e2.grown hg e3
      · obtain rfl : j = n := by omega
        refine ⟨A', n', c', by rw [List.getElem?_append_right (by omega), hvl]; simp, ?_, far A' n' c' xs hr hne⟩
        have : (l ++ [xs]).getD j [] = xs := by simp [List.getD, List.getElem?_append_right (show l.length ≤ j by omega), h2]
        rw [this]
        exact hr.grown hg hne
  obtain ⟨D'', c'', rfl, hfin⟩ := fin
  unfold Oper.wp execOp
  simp only [ho, resolve, invoke, builtin, Sem.run_bind, Sem.run_pure, Result.andThen_ok, List.map_toArray, List.map_cons, List.map_nil, hs, hx, hrun]
  exact hK D'' c'' w' hfin hb'

theorem wpList_append_rw {w : World} {ops : Array Oper} {rest : List Oper} {o : Oper} {a : Act} {Q : Exit → Act → World → Prop} (hgd : o.guard = none) {B : Nat} {D A' : Option Addr} {n c n' c' b : Nat} {l : List (List UInt8)} {xs : List UInt8} {s x : Operand}
    (ho : o.op = .call { callee := .builtin .append, args := #[s, x], argTypes := #[52, 52] }) (hs : a.eval s = .slice D n c) (hx : a.eval x = .slice (some ⟨b, 0, none⟩) 1 1)
    (h : OwnR B w D n c l) (hc : w.cell? ⟨b, 0, none⟩ = some (.slice A' n' c')) (hr : Bs w A' n' c' xs) (hne : 0 < n' → ∀ a, A' = some a → some a.block ≠ Value.ownBlock (.slice D n c)) (hm : n ≤ 1000000) (hB : B ≤ w.heap.size)
    (hK : ∀ D'' c'' w', OwnR B w' D'' (n + 1) c'' (l ++ [xs]) → Below B w w' → wpList Tryd.prog ops Q rest (a.put o.dst (.slice D'' (n + 1) c'')) w') : wpList Tryd.prog ops Q (o :: rest) a w :=
  wpList_plain hgd fun _ hK' => wp_append_rw ho hs hx h hc hr hne hm hB fun D'' c'' w' h2 h3 => hK' _ _ (hK D'' c'' w' h2 h3)

/-- What 'append(nil, s...)' made lies in a new block. -/
theorem far_of_new {w w1 : World} {B : Nat} {A D : Option Addr} {n c k cc : Nat} {xs : List UInt8} {l : List (List UInt8)} (h : Own w.heap.size w1 A n c xs) (hD : OwnR B w D k cc l) :
    0 < n → ∀ a, A = some a → some a.block ≠ Value.ownBlock (.slice D k cc) := by
  intro h0 a ha
  subst ha
  intro q
  obtain ⟨vs, h1, _⟩ := hD
  have hlt := (World.ownsRow.lt h1 a.block q.symm).2
  have hge := h.ge a.block rfl
  omega

end Go.Proofs.YtfhafednnnfmbaaDoor
end
