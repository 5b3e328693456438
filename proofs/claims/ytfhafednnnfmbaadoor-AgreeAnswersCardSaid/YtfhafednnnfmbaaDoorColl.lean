import Derived.Test.YtfhafednnnfmbaaDoorPkS
import Derived.Test.YtfhafednnnfmbaaDoorPkL
import Derived.Test.YtfhafednnnfmbaaDoorSeqZ
/-
  agree.drawn's closure: what two have in common is collected.
-/
namespace Go.Proofs.YtfhafednnnfmbaaDoor
open Go.ChangeShapes Go.WideShapes Go.ChangeAt Go.RowKit Go.Deep
set_option maxRecDepth 100000

theorem OwnR.cell1 {w : World} {B n c g : Nat} {D : Option Addr} {l : List (List UInt8)} {T : TypeId} {v u : Value} (h : OwnR B w D n c l) (hg : Cb w g T [v]) (hv : ∀ k i, v ≠ .int k i) (hgB : g < B) : OwnR B (w.setCell ⟨g, 0, none⟩ u) D n c l := by
  have gr : w.grownBy (w.setCell ⟨g, 0, none⟩ u) (some g) := grown_setCells (w := w) (g := g) (o := 0) (vs := [u])
  obtain ⟨vs, h1, h2, h3⟩ := h
  refine ⟨vs, ⟨h1.1, ?_⟩, h2, fun j hj => ?_⟩
  · rcases h1.2 with h | ⟨b, cap, cur, hv', hb, hbb, r⟩
    · exact .inl h
    · exact .inr ⟨b, cap, cur, hv', hb, (gr.block b (heap_lt hbb) (fun q => by have := Option.some.inj q; omega)).trans hbb, r⟩
  · obtain ⟨A', n', c', e1, e2, e3⟩ := h3 j hj
    refine ⟨A', n', c', e1, e2.grown gr (fun h0 a ha q => ?_), e3⟩
    obtain ⟨b, off, e, hb, hc⟩ := e2.pos h0
    rw [e] at ha
    injection ha with ha
    subst ha
    injection q with q
    simp only at q
    subst q
    have c0 := hc 0 h0
    rw [cell_of_row w b _ _ _ _ hg, List.getElem?_toArray] at c0
    cases off with
    | zero => simp at c0; exact hv _ _ c0
    | succ k => simp at c0
theorem OwnR.blk {w : World} {B n c : Nat} {D : Option Addr} {l : List (List UInt8)} (h : OwnR B w D n c l) : ∀ b, Value.ownBlock (.slice D n c) = some b → b < w.heap.size := fun b hb => by
  obtain ⟨vs, h1, _⟩ := h
  exact (World.ownsRow.lt h1 b hb).2


set_option maxHeartbeats 8000000 in
theorem coll_calls {w : World} {gw gs B n c : Nat} {D : Option Addr} {b : Bool} {l : List (List UInt8)} {s q p : List UInt8} (hs : s.length = 32) (hq : q.length = 32) (hp : p.length = 32)
    (hgw : Cb w gw 4 [.bool b]) (hgs : Cb w gs 52 [.slice D n c]) (hO : OwnR B w D n c l) (lsw : gs < gw) (lwB : gw < B) (hB : B ≤ w.heap.size) (hn : n ≤ 10) {tp : TypeId × Nat × Nat} (hP : Gp w tp) :
    Calls Tryd.prog 21 #[.agg (cellsOf ((s ++ q) ++ p)).toArray, .pointer (some ⟨gw, 0, none⟩), .pointer (some ⟨gs, 0, none⟩)] w fun e w' => e = .returned (.tuple #[]) ∧ ∃ D' c', Cb w' gw 4 [.bool (b && !decide (comL s p = List.replicate 32 0))] ∧ Cb w' gs 52 [.slice D' (n + 1) c'] ∧ OwnR B w' D' (n + 1) c' (l ++ [comL s p]) ∧ Below gs w w' := by
  have CO : Hid (∀ W, Ext w W → Calls Tryd.prog 22 #[.agg (cellsOf (s ++ q)).toArray, .agg (cellsOf p).toArray] W fun e w' => e = .returned (.tuple #[.agg (cellsOf (comL s p)).toArray, .int .i64 (comE (comL s p))]) ∧ Ext W w') := fun W e => common_calls hs hq hp (hP.ext e)
  clear hP
  have L_kk := comL_len s p
  generalize comL s p = kk at *
  generalize comE kk = ce at *
  have S_kk : (cellsOf kk).toArray.size = 32 := by simp [cellsOf_len, L_kk]
  have O_kk := cellsOf_one kk
  have lsB : gs < B := by omega
  have hblk := Lib.hid hO.blk
  have L_o : (s ++ q).length = 64 := by rw [List.length_append, hs, hq]
  generalize s ++ q = oo at *
  have C_o : (cellsOf oo).length = 64 := by rw [cellsOf_len, L_o]
  have C_p : (cellsOf p).length = 32 := by rw [cellsOf_len, hp]
  have hbs := Lib.hid (sec_built L_kk)
  have hbz := Lib.hid sec_zero
  have hal : ∀ w, (zeroValue 23).run Tryd.prog w = .ok (.agg (cellsOf (List.replicate 32 0)).toArray) w := fun w => by rw [zeros32_cells]; exact key_alloc w
  have hal2 := sec_alloc
  have L_zk : (List.replicate 32 (0 : UInt8)).length = 32 := rfl
  generalize List.replicate 32 (0 : UInt8) = zk at *
  have S_zk : (cellsOf zk).toArray.size = 32 := by simp [cellsOf_len, L_zk]
  have B0 : Hid (∀ s', Ext (w.alloc (Obj.cells (cellsOf (oo ++ p)).toArray 49)) s' → Cb s' w.heap.size 49 (cellsOf (oo ++ p)) ∧ Cb s' gw 4 [.bool b] ∧ Cb s' gs 52 [.slice D n c] ∧ OwnR B s' D n c l ∧ Ext w s') := fun s' e =>
    ⟨(Cb.new w _ _).ext e, hgw.ext (((Ext.refl w).alloc _).trans e), hgs.ext (((Ext.refl w).alloc _).trans e), hO.ext (((Ext.refl w).alloc _).trans e), ((Ext.refl w).alloc _).trans e⟩
  clear hgw hgs hO
  go_enter Tryd.func21, Tryd.ntmps21
  go_upto_region 1 with fail
  refine wp_gen (fun W => ∀ s', Ext W s' → Cb s' w.heap.size 49 (cellsOf (oo ++ p)) ∧ Cb s' gw 4 [.bool b] ∧ Cb s' gs 52 [.slice D n c] ∧ OwnR B s' D n c l ∧ Ext w s') B0.out ?_
  clear B0
  rintro w0 P0
  replace P0 := Lib.hid P0
  have q0 := Lib.hid ((P0.out _ (Ext.refl _)).1.mid (p := []) (y := cellsOf oo) (q := cellsOf p) (by rw [cellsOf_app]; rfl) rfl)
  have q1 := Lib.hid ((P0.out _ (Ext.refl _)).1.mid (p := cellsOf oo) (y := cellsOf p) (q := []) (by rw [cellsOf_app, List.append_nil]) C_o)
  go_wp2_with (first
    | (refine wpList_load_mid rfl (g := w.heap.size) (off := 0) (ys := cellsOf oo) rfl rfl q0.out rfl rfl (by rw [C_o]; rfl) ?_; simp only [Act.put, List.setIfInBounds_toArray, List.set_cons_zero, List.set_cons_succ])
    | (refine wpList_load_mid rfl (g := w.heap.size) (off := 64) (ys := cellsOf p) rfl rfl q1.out rfl rfl (by rw [C_p]; rfl) ?_; simp only [Act.put, List.setIfInBounds_toArray, List.set_cons_zero, List.set_cons_succ]))
  refine (CO.out _ (P0.out _ (Ext.refl _)).2.2.2.2).mono ?_
  rintro e u_ ⟨rfl, e1⟩
  have a1 : Hid ((u_.alloc (Obj.cells (cellsOf zk).toArray 23)).heap[u_.heap.size]? = some (.cells (cellsOf zk).toArray 23 (0, 0))) := heap_alloc_new _ _
  have E_ : Ext w0 ((u_.alloc (Obj.cells (cellsOf zk).toArray 23)).setRow u_.heap.size (cellsOf kk).toArray) := e1.trans (below_setRow ((Ext.refl u_).alloc _) (Nat.le_refl _) _)
  go_upto_region 2 with (refine wpList_store_row rfl 23 _ _ rfl u_.heap.size (cellsOf kk).toArray rfl rfl 23 _ a1.out (by rw [S_kk]; rfl) (by rw [S_kk, S_zk]) O_kk ?_; simp only [Act.put])
  obtain ⟨g4, hg_⟩ : ∃ g, g = u_.heap.size := ⟨_, rfl⟩
  refine wp_gen (fun W => Ky W g4 kk ∧ Ext w0 W) ⟨⟨by rw [hg_]; exact setRow_heap _ _ _ _ _ _ a1.out, L_kk⟩, E_⟩ ?_
  rw [← hg_]
  clear hg_ a1 E_ e1 q0 q1 CO
  rintro w1 ⟨k4, x1⟩
  have a1 : Hid ((w1.alloc (Obj.cells (cellsOf zk).toArray 59)).heap[w1.heap.size]? = some (.cells (cellsOf zk).toArray 59 (0, 0))) := heap_alloc_new _ _
  have E_ : Ext w1 ((w1.alloc (Obj.cells (cellsOf zk).toArray 59)).setRow w1.heap.size (cellsOf kk).toArray) := below_setRow ((Ext.refl w1).alloc _) (Nat.le_refl _) _
  replace k4 := Lib.hid k4
  go_upto_region 3 with (first
    | (refine wpList_load_row rfl 23 _ rfl g4 rfl 23 (cellsOf kk).toArray (0, 0) _ k4.out.1 rfl rfl (by rw [S_kk]; rfl) ?_; simp only [Act.put, List.setIfInBounds_toArray, List.set_cons_zero, List.set_cons_succ])
    | (refine wpList_build_as rfl _ _ rfl (cellsOf kk).toArray (by simp only [List.map_toArray, List.map_cons, List.map_nil]; exact hbs.out) ?_; simp only [Act.put, List.setIfInBounds_toArray, List.set_cons_zero, List.set_cons_succ])
    | (refine wpList_store_row rfl 59 _ _ rfl w1.heap.size (cellsOf kk).toArray rfl rfl 59 _ a1.out (by rw [S_kk]; rfl) (by rw [S_kk, S_zk]) O_kk ?_; simp only [Act.put]))
  obtain ⟨g6, hg_⟩ : ∃ g, g = w1.heap.size := ⟨_, rfl⟩
  have lg6 : w.heap.size ≤ g6 := by rw [hg_]; exact ((P0.out _ x1).2.2.2.2).size
  refine wp_gen (fun W => Cb W g6 59 (cellsOf kk) ∧ Ext w0 W) ⟨by rw [hg_]; exact setRow_heap _ _ _ _ _ _ a1.out, x1.trans E_⟩ ?_
  rw [← hg_]
  clear hg_ a1 E_ x1 k4
  rintro w2 ⟨k6, x2⟩
  obtain ⟨_, p2, p3, p4, p5⟩ := P0.out _ x2
  have zB : B ≤ w2.heap.size := Nat.le_trans hB p5.size
  clear P0 x2
  by_cases hz : kk = zk
  · have he : Hid (decide (kk = zk) = true) := decide_eq_true hz
    have hbf : Hid ((b && !decide (kk = zk)) = false) := by unfold Hid; rw [he.out]; cases b <;> rfl
    have bc := p2.cell (j := 0) rfl
    have bf := p2.frozen 0
    have F4 : Hid (Cb (w2.setCell ⟨gw, 0, none⟩ (.bool false)) gw 4 [.bool false] ∧ Cb (w2.setCell ⟨gw, 0, none⟩ (.bool false)) gs 52 [.slice D n c] ∧ OwnR B (w2.setCell ⟨gw, 0, none⟩ (.bool false)) D n c l ∧ Cb (w2.setCell ⟨gw, 0, none⟩ (.bool false)) g6 59 (cellsOf kk) ∧ Below gs w (w2.setCell ⟨gw, 0, none⟩ (.bool false)) ∧ B ≤ (w2.setCell ⟨gw, 0, none⟩ (.bool false)).heap.size) :=
      ⟨p2.setCell, (grown_setCells (w := w2) (g := gw) (o := 0) (vs := [.bool false]) |>.block gs (heap_lt p3) (fun q => by have := Option.some.inj q; omega)).trans p3, p4.cell1 p2 (fun k i q => by cases q) lwB,
       (grown_setCells (w := w2) (g := gw) (o := 0) (vs := [.bool false]) |>.block g6 (heap_lt k6) (fun q => by have := Option.some.inj q; omega)).trans k6, Below.setCell (p5.mono (by omega)) (Nat.le_of_lt lsw) _, by simpa [World.setCell] using zB⟩
    clear hz p2 p3 p4 p5
    replace k6 := Lib.hid k6
    go_upto_region 5 with (first
      | (refine wpList_load_row rfl 59 _ rfl g6 rfl 59 (cellsOf kk).toArray (0, 0) _ k6.out rfl rfl (by rw [S_kk]; rfl) ?_; simp only [Act.put, List.setIfInBounds_toArray, List.set_cons_zero, List.set_cons_succ])
      | (refine wpList_build_as rfl _ _ rfl (cellsOf zk).toArray (by simp only [List.map_toArray, List.map_nil]; exact hbz.out) ?_; simp only [Act.put, List.setIfInBounds_toArray, List.set_cons_zero, List.set_cons_succ])
      | (refine wpList_exec rfl (exec_eql_secB (xs := kk) (ys := zk) he.out L_kk L_zk rfl rfl rfl) ?_; simp only [Act.put, List.setIfInBounds_toArray, List.set_cons_zero, List.set_cons_succ]))
    refine wp_gen (fun W => Cb W gw 4 [.bool false] ∧ Cb W gs 52 [.slice D n c] ∧ OwnR B W D n c l ∧ Cb W g6 59 (cellsOf kk) ∧ Below gs w W ∧ B ≤ W.heap.size) F4.out ?_
    clear F4 bc bf k6 he zB
    rintro V ⟨p2, p3, p4, k6, x5, zB⟩
    have F5 := Lib.hid (And.intro p2 (And.intro p3 (And.intro p4 (And.intro k6 x5))))
    clear p2 p3 p4 k6 x5
    refine wp_region_seqZ (R := Below B) (Below.refl _) (fun _ _ _ => Below.trans) 5 [0, 1, 2, 3, 4, 5] [3, 4, 5] [(0, 21, 8), (0, 22, 128), (2, 23, 4194304), (4, 24, 8388608), (9, 25, 18874368), (31, 0, 33554440)] (by kernel_rfl) (by kernel_rfl) (by kernel_rfl) rfl (by kernel_rfl) (by kernel_rfl) (by kernel_rfl) (fun _ _ d _ _ h => by cases d <;> exact h) ?_
    repeat (refine seqZ_read _ (fun w' e => (F5.out.2.1.kept ((Below.refl B V).drew.trans e) lsB).cell (j := 0) (v := .slice D n c) rfl) _ (v := ?_) rfl rfl (by rfl) ?_ ?_; rotate_left; (· intro w' hF; go_simp; (try with_reducible rfl)); simp only [Act.put, List.setIfInBounds_toArray, List.set_cons_zero, List.set_cons_succ])
    refine seqZ_do _ rfl rfl (by rfl) (fun K1 hK1 => ?_)
    go_simp
    refine hK1.out _ _ (.inr (by have r := ((Below.refl B V).alloc zB (Obj.cells #[.slice (some ⟨g6, 0, none⟩) 32 32] 45)).drew; exact ⟨r.os, r.tape, r.output, r.size, r.block⟩)) ?_
    clear hK1 K1
    (try simp only [Act.put, List.setIfInBounds_toArray, List.set_cons_zero, List.set_cons_succ])
    have m5 : Ext V ((V.alloc (Obj.cells #[.slice (some ⟨g6, 0, none⟩) 32 32] 45)).drew) := ((Ext.refl V).alloc _).drew
    have o5 := Lib.hid (F5.out.2.2.1.ext m5)
    have s5 := Lib.hid (F5.out.2.1.ext m5)
    have b5 := Lib.hid (F5.out.1.ext m5)
    have k5 := Lib.hid (F5.out.2.2.2.1.ext m5)
    have c5 : Hid (((V.alloc (Obj.cells #[.slice (some ⟨g6, 0, none⟩) 32 32] 45)).drew).cell? ⟨V.heap.size, 0, none⟩ = some (.slice (some ⟨g6, 0, none⟩) 32 32)) := (Cb.new V 45 [.slice (some ⟨g6, 0, none⟩) 32 32]).cell rfl
    have z5 : B ≤ ((V.alloc (Obj.cells #[.slice (some ⟨g6, 0, none⟩) 32 32] 45)).drew).heap.size := Nat.le_trans zB m5.size
    have x5 := Lib.hid (Below.trans F5.out.2.2.2.2 (m5.mono (Nat.le_trans (Nat.le_of_lt lsB) zB)))
    generalize hV6 : (V.alloc (Obj.cells #[.slice (some ⟨g6, 0, none⟩) 32 32] 45)).drew = V6 at *
    clear hV6 m5 F5
    refine seqZ_do _ rfl rfl (by rfl) (fun K1 hK1 => ?_)
    refine wp_append_rw rfl rfl rfl o5.out c5.out (Bs.key k5.out L_kk) (fun _ a ha q => by cases ha; have := hblk.out _ q.symm; simp only at this; omega) (by omega) z5 ?_
    intro D7 c7 V7 o7 r7
    refine hK1.out _ _ (.inr r7) ?_
    clear hK1 K1
    (try simp only [Act.put, List.setIfInBounds_toArray, List.set_cons_zero, List.set_cons_succ])
    have s7 := Lib.hid (s5.out.kept r7 lsB)
    have b7 := Lib.hid (b5.out.kept r7 lwB)
    have x7 := Lib.hid (Below.trans x5.out (r7.mono (Nat.le_of_lt lsB)))
    replace o7 := Lib.hid o7
    have cs7 := s7.out.cell (j := 0) rfl
    have fs7 := s7.out.frozen 0
    clear o5 s5 b5 k5 c5 x5 r7
    refine seqZ_do _ rfl rfl (by rfl) (fun K1 hK1 => ?_)
    go_simp
    refine hK1.out _ _ (.inl rfl) ?_
    clear hK1 K1
    (try simp only [Act.put, List.setIfInBounds_toArray, List.set_cons_zero, List.set_cons_succ])
    refine seqZ_done ?_
    have fin : Hid (Cb (V7.setCell ⟨gs, 0, none⟩ (.slice D7 (n + 1) c7)) gw 4 [.bool false] ∧ Cb (V7.setCell ⟨gs, 0, none⟩ (.slice D7 (n + 1) c7)) gs 52 [.slice D7 (n + 1) c7] ∧ OwnR B (V7.setCell ⟨gs, 0, none⟩ (.slice D7 (n + 1) c7)) D7 (n + 1) c7 (l ++ [kk]) ∧ Below gs w (V7.setCell ⟨gs, 0, none⟩ (.slice D7 (n + 1) c7))) :=
      ⟨(grown_setCells (w := V7) (g := gs) (o := 0) (vs := [.slice D7 (n + 1) c7]) |>.block gw (heap_lt b7.out) (fun q => by have := Option.some.inj q; omega)).trans b7.out, s7.out.setCell, o7.out.cell1 s7.out (fun k i q => by cases q) lsB, Below.setCell x7.out (Nat.le_refl _) _⟩
    clear s7 b7 o7 x7 cs7 fs7
    go_wp2_with fail
    go_end0
    exact ⟨rfl, D7, c7, by rw [hbf.out]; exact fin.out⟩
  · have he : Hid (decide (kk = zk) = false) := decide_eq_false hz
    have hbf : Hid ((b && !decide (kk = zk)) = b) := by unfold Hid; rw [he.out]; cases b <;> rfl
    clear hz
    have F5 := Lib.hid (And.intro p2 (And.intro p3 (And.intro p4 (And.intro k6 (p5.mono (show gs ≤ w.heap.size by omega))))))
    clear p2 p3 p4 p5
    replace k6 := Lib.hid k6
    go_upto_region 5 with (first
      | (refine wpList_load_row rfl 59 _ rfl g6 rfl 59 (cellsOf kk).toArray (0, 0) _ k6.out rfl rfl (by rw [S_kk]; rfl) ?_; simp only [Act.put, List.setIfInBounds_toArray, List.set_cons_zero, List.set_cons_succ])
      | (refine wpList_build_as rfl _ _ rfl (cellsOf zk).toArray (by simp only [List.map_toArray, List.map_nil]; exact hbz.out) ?_; simp only [Act.put, List.setIfInBounds_toArray, List.set_cons_zero, List.set_cons_succ])
      | (refine wpList_exec rfl (exec_eql_secB (xs := kk) (ys := zk) he.out L_kk L_zk rfl rfl rfl) ?_; simp only [Act.put, List.setIfInBounds_toArray, List.set_cons_zero, List.set_cons_succ]))
    generalize w2 = V at *
    clear he k6
    refine wp_region_seqZ (R := Below B) (Below.refl _) (fun _ _ _ => Below.trans) 5 [0, 1, 2, 3, 4, 5] [3, 4, 5] [(0, 21, 8), (0, 22, 128), (2, 23, 4194304), (4, 24, 8388608), (9, 25, 18874368), (31, 0, 33554440)] (by kernel_rfl) (by kernel_rfl) (by kernel_rfl) rfl (by kernel_rfl) (by kernel_rfl) (by kernel_rfl) (fun _ _ d _ _ h => by cases d <;> exact h) ?_
    repeat (refine seqZ_read _ (fun w' e => (F5.out.2.1.kept ((Below.refl B V).drew.trans e) lsB).cell (j := 0) (v := .slice D n c) rfl) _ (v := ?_) rfl rfl (by rfl) ?_ ?_; rotate_left; (· intro w' hF; go_simp; (try with_reducible rfl)); simp only [Act.put, List.setIfInBounds_toArray, List.set_cons_zero, List.set_cons_succ])
    refine seqZ_do _ rfl rfl (by rfl) (fun K1 hK1 => ?_)
    go_simp
    refine hK1.out _ _ (.inr (by have r := ((Below.refl B V).alloc zB (Obj.cells #[.slice (some ⟨g6, 0, none⟩) 32 32] 45)).drew; exact ⟨r.os, r.tape, r.output, r.size, r.block⟩)) ?_
    clear hK1 K1
    (try simp only [Act.put, List.setIfInBounds_toArray, List.set_cons_zero, List.set_cons_succ])
    have m5 : Ext V ((V.alloc (Obj.cells #[.slice (some ⟨g6, 0, none⟩) 32 32] 45)).drew) := ((Ext.refl V).alloc _).drew
    have o5 := Lib.hid (F5.out.2.2.1.ext m5)
    have s5 := Lib.hid (F5.out.2.1.ext m5)
    have b5 := Lib.hid (F5.out.1.ext m5)
    have k5 := Lib.hid (F5.out.2.2.2.1.ext m5)
    have c5 : Hid (((V.alloc (Obj.cells #[.slice (some ⟨g6, 0, none⟩) 32 32] 45)).drew).cell? ⟨V.heap.size, 0, none⟩ = some (.slice (some ⟨g6, 0, none⟩) 32 32)) := (Cb.new V 45 [.slice (some ⟨g6, 0, none⟩) 32 32]).cell rfl
    have z5 : B ≤ ((V.alloc (Obj.cells #[.slice (some ⟨g6, 0, none⟩) 32 32] 45)).drew).heap.size := Nat.le_trans zB m5.size
    have x5 := Lib.hid (Below.trans F5.out.2.2.2.2 (m5.mono (Nat.le_trans (Nat.le_of_lt lsB) zB)))
    generalize hV6 : (V.alloc (Obj.cells #[.slice (some ⟨g6, 0, none⟩) 32 32] 45)).drew = V6 at *
    clear hV6 m5 F5
    refine seqZ_do _ rfl rfl (by rfl) (fun K1 hK1 => ?_)
    refine wp_append_rw rfl rfl rfl o5.out c5.out (Bs.key k5.out L_kk) (fun _ a ha q => by cases ha; have := hblk.out _ q.symm; simp only at this; omega) (by omega) z5 ?_
    intro D7 c7 V7 o7 r7
    refine hK1.out _ _ (.inr r7) ?_
    clear hK1 K1
    (try simp only [Act.put, List.setIfInBounds_toArray, List.set_cons_zero, List.set_cons_succ])
    have s7 := Lib.hid (s5.out.kept r7 lsB)
    have b7 := Lib.hid (b5.out.kept r7 lwB)
    have x7 := Lib.hid (Below.trans x5.out (r7.mono (Nat.le_of_lt lsB)))
    replace o7 := Lib.hid o7
    have cs7 := s7.out.cell (j := 0) rfl
    have fs7 := s7.out.frozen 0
    clear o5 s5 b5 k5 c5 x5 r7
    refine seqZ_do _ rfl rfl (by rfl) (fun K1 hK1 => ?_)
    go_simp
    refine hK1.out _ _ (.inl rfl) ?_
    clear hK1 K1
    (try simp only [Act.put, List.setIfInBounds_toArray, List.set_cons_zero, List.set_cons_succ])
    refine seqZ_done ?_
    have fin : Hid (Cb (V7.setCell ⟨gs, 0, none⟩ (.slice D7 (n + 1) c7)) gw 4 [.bool b] ∧ Cb (V7.setCell ⟨gs, 0, none⟩ (.slice D7 (n + 1) c7)) gs 52 [.slice D7 (n + 1) c7] ∧ OwnR B (V7.setCell ⟨gs, 0, none⟩ (.slice D7 (n + 1) c7)) D7 (n + 1) c7 (l ++ [kk]) ∧ Below gs w (V7.setCell ⟨gs, 0, none⟩ (.slice D7 (n + 1) c7))) :=
      ⟨(grown_setCells (w := V7) (g := gs) (o := 0) (vs := [.slice D7 (n + 1) c7]) |>.block gw (heap_lt b7.out) (fun q => by have := Option.some.inj q; omega)).trans b7.out, s7.out.setCell, o7.out.cell1 s7.out (fun k i q => by cases q) lsB, Below.setCell x7.out (Nat.le_refl _) _⟩
    clear s7 b7 o7 x7 cs7 fs7
    go_wp2_with fail
    go_end0
    exact ⟨rfl, D7, c7, by rw [hbf.out]; exact fin.out⟩
end Go.Proofs.YtfhafednnnfmbaaDoor
