import Derived.Test.YtbnjmmefnjoofaaDoorPkF
import Derived.Test.YtbnjmmefnjoofaaDoorPkE
import Derived.Laws.ResultCell
/-
  stamp.New, what it creates keys with; the state of a relay; key.
-/
namespace Go.Proofs.YtbnjmmefnjoofaaDoor
open Go.ChangeShapes Go.WideShapes Go.ChangeAt Go.RowKit Go.Deep Go.Maps
set_option maxRecDepth 100000

theorem key_alloc16 (w : World) : (zeroValue 23).run Tryd.prog w = .ok (.agg zeros32) w := by kernel_rfl
theorem int_law16 : Keyed Tryd.prog 3 := int_keyed Tryd.underlying3
/-- A relay at block g: its map at block b, its root at block q. -/
structure SR (w : World) (g b q : Nat) (root : List UInt8) (ticks : Nat) (E : List (Value × Value)) : Prop where
  cb : Cb w g 108 [.int .i64 (ticks : Int), .map (some b), .func (.func 39) #[] #[.pointer (some ⟨q, 0, none⟩)]]
  kr : Ky w q root
  mp : Mp Tryd.prog 3 w b E
  en : ∀ p ∈ E, ∃ e : Nat, p = (.int .i64 (e : Int), .agg (cellsOf (ekL root e)).toArray)
section
variable {w w' : World} {g b q ticks : Nat} {root : List UInt8} {E : List (Value × Value)}
theorem SR.stay (h : SR w g b q root ticks E) (hg : w'.heap[g]? = w.heap[g]?) (hq : w'.heap[q]? = w.heap[q]?) (hb : w'.heap[b]? = w.heap[b]?) : SR w' g b q root ticks E := ⟨hg.trans h.cb, ⟨hq.trans h.kr.1, h.kr.2⟩, h.mp.stay hb, h.en⟩
theorem SR.ext (h : SR w g b q root ticks E) (x : Ext w w') : SR w' g b q root ticks E := h.stay (x.block _ h.cb.lt) (x.block _ (heap_lt h.kr.1)) (x.block _ h.mp.lt)
theorem SR.gb (h : SR w g b q root ticks E) : g ≠ b := fun e => by
  obtain ⟨es, c, z⟩ := h.mp.obj
  have h1 := h.cb
  unfold Cb at h1
  rw [e, z] at h1
  cases h1
theorem SR.qb (h : SR w g b q root ticks E) : q ≠ b := fun e => by
  obtain ⟨es, c, z⟩ := h.mp.obj
  have h1 := h.kr.1
  rw [e, z] at h1
  cases h1
end
theorem snew16_bad {w : World} {root : List UInt8} {z : Int} (h : z < 1 ∨ 1000000 < z) : Calls Tryd.prog 22 #[.agg (cellsOf root).toArray, .int .i64 z] w fun e w' => e = .returned (.tuple #[.pointer none, .int .i64 1]) ∧ Ext w w' := by
  have X := Lib.hid ((Ext.refl w).alloc (.cells (cellsOf root).toArray 23))
  by_cases h1 : z < 1
  · have u1 : decide (z < 1) = true := decide_eq_true h1
    clear h
    go_enter Tryd.func22, Tryd.ntmps22
    go_wp2_with fail
    go_ret2
    exact ⟨rfl, X.out⟩
  · have u1 : decide (z < 1) = false := decide_eq_false h1
    have h2 : 1000000 < z := h.resolve_left h1
    have u2 : decide (1000000 < z) = true := decide_eq_true h2
    clear h
    go_enter Tryd.func22, Tryd.ntmps22
    go_wp2_with fail
    go_ret2
    exact ⟨rfl, X.out⟩
theorem snew16_ok {w : World} {root : List UInt8} {n : Nat} (lr : root.length = 32) (n1 : 1 ≤ n) (n6 : n ≤ 1000000) :
    Calls Tryd.prog 22 #[.agg (cellsOf root).toArray, .int .i64 (n : Int)] w fun e w' => ∃ (g b q : Nat), e = .returned (.tuple #[.pointer (some ⟨g, 0, none⟩), .int .i64 0]) ∧ (w.heap.size ≤ g ∧ w.heap.size ≤ b ∧ w.heap.size ≤ q) ∧ SR w' g b q root n [] ∧ Ext w w' := by
  have u1 : decide ((n : Int) < 1) = false := decide_eq_false (by omega)
  have u2 : decide (1000000 < (n : Int)) = false := decide_eq_false (by omega)
  have hmm := @run_makeMap Tryd.prog
  have hmf : ∀ (fn : Fn) (first cap : Array Value) (w : World), (Instr.makeFunc fn first cap).run Tryd.prog w = .ok (.func fn first cap) w := fun _ _ _ _ => rfl
  obtain ⟨C, hC⟩ : ∃ C, C = cellsOf root := ⟨_, rfl⟩
  rw [← hC]
  have hb : Hid (∀ b q : Nat, Tryd.prog.built 108 [(0, .int .i64 (n : Int)), (1, .map (some b)), (2, .func (.func 39) #[] #[.pointer (some ⟨q, 0, none⟩)])] = some #[.int .i64 (n : Int), .map (some b), .func (.func 39) #[] #[.pointer (some ⟨q, 0, none⟩)]]) := fun b q => by kernel_rfl
  have FIN : Hid (SR (((w.alloc (.cells C.toArray 23)).alloc (.map #[] 0)).alloc (.cells #[.int .i64 (n : Int), .map (some (w.heap.size + 1)), .func (.func 39) #[] #[.pointer (some ⟨w.heap.size, 0, none⟩)]] 108)) (w.heap.size + 1 + 1) (w.heap.size + 1) w.heap.size root n [] ∧ Ext w (((w.alloc (.cells C.toArray 23)).alloc (.map #[] 0)).alloc (.cells #[.int .i64 (n : Int), .map (some (w.heap.size + 1)), .func (.func 39) #[] #[.pointer (some ⟨w.heap.size, 0, none⟩)]] 108))) := by
    have m1 := Mp.made (w.alloc (.cells C.toArray 23)) Tryd.prog 3
    rw [show (w.alloc (.cells C.toArray 23)).heap.size = w.heap.size + 1 by simp] at m1
    have c1 := Cb.new ((w.alloc (.cells C.toArray 23)).alloc (.map #[] 0)) 108 [.int .i64 (n : Int), .map (some (w.heap.size + 1)), .func (.func 39) #[] #[.pointer (some ⟨w.heap.size, 0, none⟩)]]
    rw [show ((w.alloc (.cells C.toArray 23)).alloc (.map #[] 0)).heap.size = w.heap.size + 1 + 1 by simp] at c1
    refine ⟨⟨c1, ⟨?_, lr⟩, m1.ext ((Ext.refl _).alloc _), fun p hp => by cases hp⟩, (((Ext.refl w).alloc _).alloc _).alloc _⟩
    rw [← hC]
    exact (Cb.new w 23 C).ext (((Ext.refl _).alloc _).alloc _)
  replace hC := Lib.hid (fun _ : Unit => hC)
  go_enter Tryd.func22, Tryd.ntmps22
  go_wp2_with (refine wpList_build_as rfl _ _ rfl #[.int .i64 (n : Int), .map (some (w.heap.size + 1)), .func (.func 39) #[] #[.pointer (some ⟨w.heap.size, 0, none⟩)]] (by simp only [List.map_toArray, List.map_cons, List.map_nil]; exact hb.out _ _) ?_; go_frame)
  go_ret2
  exact ⟨_, _, _, rfl, ⟨by omega, by omega, Nat.le_refl _⟩, FIN.out⟩
set_option maxHeartbeats 2000000 in
theorem create16_calls {w : World} {q ep : Nat} {root : List UInt8} (hk : Ky w q root) (he : ep ≤ 1000000) {tg : TypeId × Nat × Nat} (hG : Gl w tg) :
    Calls Tryd.prog 39 #[.int .i64 (ep : Int), .pointer (some ⟨q, 0, none⟩)] w fun e w' => e = .returned (.agg (cellsOf (ekL root ep)).toArray) ∧ Ext w w' := by
  have H4 : Hid (∀ (W : World), Calls Tryd.prog 41 #[.int .u64 (ep : Int), .int .i64 4] W (RetBs (hiB ep 4) W)) := fun W => high_calls (by omega) (by omega) (by omega) (by omega) rfl
  have DR : Hid (∀ (W : World) (A : Option Addr) (m d : Nat), Ext w W → Bs W A m d (hiB ep 4) → Calls Tryd.prog 40 #[.agg (cellsOf root).toArray, .slice A m d] W fun e w' => e = .returned (.agg (cellsOf (ekL root ep)).toArray) ∧ Ext W w') := fun W A m d e b => draw_calls hk.2 b (hG.kept e hG.lt)
  have u1 : IntKind.u64.wrap (ep : Int) = (ep : Int) := IntWalk.u64_in _ (by omega)
  have L_e : (ekL root ep).length = 32 := macL_len _ _
  have S_r := hk.size
  have hal := key_alloc16
  have S_Z := zeros32_size
  clear hG
  generalize ekL root ep = ek at *
  generalize hiB ep 4 = h4 at *
  have S_e : (cellsOf ek).toArray.size = 32 := by simp [cellsOf_len, L_e]
  have O_e := cellsOf_one ek
  generalize zeros32 = Z at *
  have ql := heap_lt hk.1
  have B0 : Hid (Ky (w.alloc (.cells Z 23)) q root ∧ (w.alloc (.cells Z 23)).heap[w.heap.size]? = some (.cells Z 23 (0, 0)) ∧ Ext w (w.alloc (.cells Z 23))) := ⟨hk.ext ((Ext.refl w).alloc _), heap_alloc_new _ _, (Ext.refl w).alloc _⟩
  go_enter Tryd.func39, Tryd.ntmps39
  go_upto_region 1 with fail
  refine wp_gen (fun W => Ky W q root ∧ W.heap[w.heap.size]? = some (.cells Z 23 (0, 0)) ∧ Ext w W) B0.out ?_
  obtain ⟨g3, hg3⟩ : ∃ g, g = w.heap.size := ⟨_, rfl⟩
  rw [← hg3]
  rw [← hg3] at ql
  have wg3 : w.heap.size ≤ g3 := Nat.le_of_eq hg3.symm
  replace hg3 := Lib.hid hg3
  clear B0 hk
  rintro w0 ⟨k0, z0, x0⟩
  have z0l := heap_lt z0
  have F1 : Hid (∀ s, Below g3 w0.drew s → s.heap[q]? = some (.cells (cellsOf root).toArray 23 (0, 0))) := fun s e => (e.block q ql).trans k0.1
  have z1 : Hid (w0.drew.heap[g3]? = some (.cells Z 23 (0, 0))) := z0
  have x1 : Hid (Ext w w0.drew) := x0.drew
  have z1l : Hid (g3 ≤ w0.drew.heap.size) := Nat.le_of_lt z0l
  clear k0 z0 x0 z0l
  refine qgB g3 [0, 1, 2, 3, 4, 5] [3, 4, 5] ?_
  generalize w0.drew = W at *
  refine qV rfl (fun w' => w'.heap[q]? = some (.cells (cellsOf root).toArray 23 (0, 0))) (fun w' e => F1.out w' e) (.agg (cellsOf root).toArray) (fun w' hF => exec_load_row rfl rfl hF rfl rfl (by rw [S_r]; rfl)) ?_
  go_frame
  repeat ((first | refine qR0 ?_ | refine qS ?_); go_frame)
  refine qD fun K hK => ?_
  go_simp
  refine (H4.out _).mono ?_
  rintro e w1 ⟨A1, n1, m1, rfl, b1, e1⟩
  have D1 := Lib.hid (DR.out w1 A1 n1 m1 (x1.out.trans e1) b1)
  refine hK.out _ _ (Below.mono e1 z1l.out) ?_
  clear hK K
  try go_frame
  have z2 : Hid (w1.heap[g3]? = some (.cells Z 23 (0, 0))) := (e1.block _ (heap_lt z1.out)).trans z1.out
  have x2 : Hid (Ext w w1) := x1.out.trans e1
  have z2l : Hid (g3 ≤ w1.heap.size) := Nat.le_trans z1l.out e1.size
  clear H4 DR F1 b1 e1 z1 x1 z1l
  refine qD fun K hK => ?_
  go_simp
  refine D1.out.mono ?_
  rintro e w2 ⟨rfl, e2⟩
  refine hK.out _ _ (Below.mono e2 z2l.out) ?_
  clear hK K
  try go_frame
  have z3 : Hid (w2.heap[g3]? = some (.cells Z 23 (0, 0))) := (e2.block _ (heap_lt z2.out)).trans z2.out
  have x3 : Hid (Ext w w2) := x2.out.trans e2
  clear D1 e2 z2 x2 z2l
  refine qD fun K hK => ?_
  refine wp_store_row _ _ _ rfl g3 (cellsOf ek).toArray rfl rfl 23 Z z3.out (by rw [S_e]; rfl) (by rw [S_e, S_Z]) O_e ?_
  refine hK.out _ _ (below_setRow (Below.refl _ _) (Nat.le_refl _) _) ?_
  clear hK K
  try simp only [Act.put]
  refine seq_done ?_
  have F : Hid (Ext w (w2.setRow g3 (cellsOf ek).toArray)) := below_setRow x3.out wg3 _
  go_wp2_with fail
  (try simp only [Exit.inBlock, Exit.then])
  refine bodyPost_ret (results_cell_row rfl _ _ g3 23 (cellsOf ek).toArray (0, 0) _ rfl (setRow_heap _ _ _ _ _ _ z3.out) rfl rfl (by rw [S_e]; rfl)) rfl ?_
  exact ⟨rfl, F.out⟩
end Go.Proofs.YtbnjmmefnjoofaaDoor
