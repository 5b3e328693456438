/-
  (*stamp.Relay).key.
-/
import Derived.Test.YtbnjmmefnjoofaaDoorNew16
namespace Go.Proofs.YtbnjmmefnjoofaaDoor
open Go.ChangeShapes Go.WideShapes Go.ChangeAt Go.RowKit Go.Deep Go.Maps
set_option maxRecDepth 100000

theorem wpList_lookup_mp16 {P : Program} {ops : Array Oper} {rest : List Oper} {o : Oper} {a : Act} {w : World} {Q : Exit → Act → World → Prop} {c : Bool} {t : TypeId} {mv xv v : Value} (hg : o.guard = none) (m x : Operand) (hop : o.op = Op.lookup t m x c) (hm : a.eval m = mv) (hx : a.eval x = xv)
    (hr : (Instr.lookup t mv xv c).run P w = .ok v w) (h : wpList P ops Q rest (a.put o.dst v) w) : wpList P ops Q (o :: rest) a w := by
  refine wpList_plain hg fun K' hK' => ?_
  unfold Oper.wp
  simp [execOp, hop, hm, hx, hr, Result.andThen]
  exact hK' _ _ h
theorem SR.look {w : World} {g b q ticks : Nat} {root : List UInt8} {E : List (Value × Value)} (h : SR w g b q root ticks E) {ep : Nat} (he : ep ≤ 1000000) :
    ((Instr.lookup 106 (.map (some b)) (.int .i64 (ep : Int)) true).run Tryd.prog w = .ok (.tuple #[.agg (cellsOf (ekL root ep)).toArray, .bool true]) w) ∨
    ((∀ p ∈ E, p.1 ≠ .int .i64 (ep : Int)) ∧ (Instr.lookup 106 (.map (some b)) (.int .i64 (ep : Int)) true).run Tryd.prog w = .ok (.tuple #[.agg zeros32, .bool false]) w) := by
  rcases h.mp.look int_law16 Tryd.underlying106 (key_alloc16 w) (int_key Tryd.underlying3 (i := (ep : Int)) (by omega)) with ⟨v, h1, h2, _⟩ | ⟨h1, h2, _⟩
  · left
    obtain ⟨e, z⟩ := h.en _ h1
    injection z with z1 z2
    injection z1 with _ z1
    obtain rfl : ep = e := by omega
    rw [h2, z2]
  · exact .inr ⟨h1, h2⟩
theorem SR.add {w : World} {g b q ticks : Nat} {root : List UInt8} {E : List (Value × Value)} (h : SR w g b q root ticks E) {ep : Nat} (he : ep ≤ 1000000) (hE : E.length ≤ 1000000) (hn : ∀ p ∈ E, p.1 ≠ .int .i64 (ep : Int)) :
    ∃ w', (Instr.mapUpdate 106 (.map (some b)) (.int .i64 (ep : Int)) (.agg (cellsOf (ekL root ep)).toArray)).run Tryd.prog w = .ok () w' ∧ SR w' g b q root ticks (E ++ [(.int .i64 (ep : Int), .agg (cellsOf (ekL root ep)).toArray)]) ∧ w.grownBy w' (some b) := by
  obtain ⟨w1, r1, r2, r3, _⟩ := h.mp.add int_law16 Tryd.underlying106 (by unfold maxLen; omega) (int_key Tryd.underlying3 (i := (ep : Int)) (by omega)) hn (.agg (cellsOf (ekL root ep)).toArray)
  refine ⟨w1, r1, ⟨(r3.block _ h.cb.lt (fun z => h.gb (Option.some.inj z))).trans h.cb, ⟨(r3.block _ (heap_lt h.kr.1) (fun z => h.qb (Option.some.inj z))).trans h.kr.1, h.kr.2⟩, r2, fun p hp => ?_⟩, r3⟩
  rcases List.mem_append.1 hp with z | z
  · exact h.en p z
  · exact ⟨ep, List.mem_singleton.1 z⟩
set_option maxHeartbeats 4000000 in
theorem key16_calls {w : World} {g mb q ticks ep : Nat} {root : List UInt8} {E : List (Value × Value)} (h : SR w g mb q root ticks E) (he : ep ≤ 1000000) (hE : E.length ≤ 1000000) {tg : TypeId × Nat × Nat} (hG : Gl w tg) :
    Calls Tryd.prog 50 #[.pointer (some ⟨g, 0, none⟩), .int .i64 (ep : Int)] w fun e w' => e = .returned (.agg (cellsOf (ekL root ep)).toArray) ∧ (∃ E', SR w' g mb q root ticks E' ∧ E'.length ≤ E.length + 1) ∧ w.grownBy w' (some mb) := by
  have CR := Lib.hid (fun (W : World) (x : Ext w W) => create16_calls (ep := ep) ((h.ext x).kr) he (hG.kept x hG.lt))
  have LK := Lib.hid (fun (W : World) (x : Ext w W) => (h.ext x).look he)
  have AD := Lib.hid (fun (W : World) (x : Ext w W) hn => (h.ext x).add he hE hn)
  have SE : Hid (∀ s, Ext w s → SR s g mb q root ticks E) := fun s x => h.ext x
  have L_e : (ekL root ep).length = 32 := macL_len _ _
  have hal := key_alloc16
  have S_Z := zeros32_size
  have O_Z : zeros32.all (·.oneCell') = true := by kernel_rfl
  have gl := h.cb.lt
  have bl := h.mp.lt
  have ql := heap_lt h.kr.1
  have gnb := h.gb
  clear hG h
  generalize ekL root ep = ek at *
  have S_e : (cellsOf ek).toArray.size = 32 := by simp [cellsOf_len, L_e]
  have O_e := cellsOf_one ek
  generalize zeros32 = Z at *
  obtain ⟨g4, hg4⟩ : ∃ q, q = w.heap.size := ⟨_, rfl⟩
  have B0 : Hid ((w.alloc (.cells Z 23)).heap[g4]? = some (.cells Z 23 (0, 0)) ∧ Ext w (w.alloc (.cells Z 23))) := by rw [hg4]; exact ⟨heap_alloc_new _ _, (Ext.refl w).alloc _⟩
  replace hg4 := Lib.hid hg4
  go_enter Tryd.func50, Tryd.ntmps50
  go_upto_region 1 with fail
  refine wp_gen (fun W => W.heap[g4]? = some (.cells Z 23 (0, 0)) ∧ Ext w W) B0.out ?_
  rw [← hg4.out]
  have wg4 : w.heap.size ≤ g4 := Nat.le_of_eq hg4.out.symm
  clear B0 hg4
  rintro w0 ⟨z4, x0⟩
  have s0 := SE.out w0 x0
  have c1 : w0.cell? ⟨g, 1, none⟩ = some (.map (some mb)) := s0.cb.cell rfl
  have z4l := heap_lt z4
  clear s0
  rcases LK.out w0 x0 with hit | ⟨hn, miss⟩
  · have K5 : Hid (((w0.alloc (.cells Z 23)).setRow w0.heap.size (cellsOf ek).toArray).heap[w0.heap.size]? = some (.cells (cellsOf ek).toArray 23 (0, 0)) ∧ ((w0.alloc (.cells Z 23)).setRow w0.heap.size (cellsOf ek).toArray).heap[g4]? = some (.cells Z 23 (0, 0)) ∧ Ext w ((w0.alloc (.cells Z 23)).setRow w0.heap.size (cellsOf ek).toArray)) :=
      ⟨setRow_heap _ _ _ _ _ _ (heap_alloc_new _ _), ((Ext.newRow w0 _ _).block _ z4l).trans z4, x0.trans (Ext.newRow _ _ _)⟩
    clear CR LK AD x0
    go_upto_region 2 with (first
      | (refine wpList_lookup_mp16 rfl _ _ rfl rfl rfl hit ?_; go_frame)
      | (refine wpList_store_row rfl 23 _ _ rfl w0.heap.size (cellsOf ek).toArray rfl rfl 23 Z (heap_alloc_new _ _) (by rw [S_e]; rfl) (by rw [S_e, S_Z]) O_e ?_; simp only [Act.put]))
    refine wp_gen (fun W => W.heap[w0.heap.size]? = some (.cells (cellsOf ek).toArray 23 (0, 0)) ∧ W.heap[g4]? = some (.cells Z 23 (0, 0)) ∧ Ext w W) K5.out ?_
    generalize w0.heap.size = g5 at *
    clear K5 hit c1 z4 w0
    rintro w1 ⟨k5, z4, x1⟩
    have F : Hid (SR (w1.setRow g4 (cellsOf ek).toArray) g mb q root ticks E ∧ w.grownBy (w1.setRow g4 (cellsOf ek).toArray) (some mb)) := by
      have x : Ext w (w1.setRow g4 (cellsOf ek).toArray) := below_setRow x1 wg4 _
      exact ⟨SE.out _ x, ⟨x.os, x.tape, x.output, x.size, fun i hi _ => x.block i hi⟩⟩
    clear SE x1
    go_wp2_with (first
      | ((with_reducible refine wpList_load_rowW (o := ⟨some 30, _, _, _, _, _⟩) ?_ 23 _ rfl g5 ?_ 23 (cellsOf ek).toArray (0, 0) _ ?_ Tryd.underlying23 ?_ ?_ ?_); (· rfl); (· rfl); (· exact k5); (· rfl); (· rw [S_e]; rfl); go_frame)
      | (refine wpList_store_row rfl 23 _ _ rfl g4 (cellsOf ek).toArray rfl rfl 23 Z z4 (by rw [S_e]; rfl) (by rw [S_e, S_Z]) O_e ?_; simp only [Act.put]))
    (try simp only [Exit.inBlock, Exit.then])
    refine bodyPost_ret (results_cell_row rfl _ _ g4 23 (cellsOf ek).toArray (0, 0) _ rfl (setRow_heap _ _ _ _ _ _ z4) rfl rfl (by rw [S_e]; rfl)) rfl ?_
    exact ⟨rfl, ⟨E, F.out.1, by omega⟩, F.out.2⟩
  · have K5 : Hid (((w0.alloc (.cells Z 23)).setRow w0.heap.size Z).heap[w0.heap.size]? = some (.cells Z 23 (0, 0)) ∧ ((w0.alloc (.cells Z 23)).setRow w0.heap.size Z).heap[g4]? = some (.cells Z 23 (0, 0)) ∧ Ext w ((w0.alloc (.cells Z 23)).setRow w0.heap.size Z)) :=
      ⟨setRow_heap _ _ _ _ _ _ (heap_alloc_new _ _), ((Ext.newRow w0 _ _).block _ z4l).trans z4, x0.trans (Ext.newRow _ _ _)⟩
    have w5 : w.heap.size ≤ w0.heap.size := x0.size
    clear LK x0
    go_upto_region 2 with (first
      | (refine wpList_lookup_mp16 rfl _ _ rfl rfl rfl miss ?_; go_frame)
      | (refine wpList_store_row rfl 23 _ _ rfl w0.heap.size Z rfl rfl 23 Z (heap_alloc_new _ _) (by rw [S_Z]; rfl) (by rw [S_Z]) O_Z ?_; simp only [Act.put]))
    refine wp_gen (fun W => W.heap[w0.heap.size]? = some (.cells Z 23 (0, 0)) ∧ W.heap[g4]? = some (.cells Z 23 (0, 0)) ∧ Ext w W) K5.out ?_
    generalize w0.heap.size = g5 at *
    clear K5 miss c1 z4 w0
    rintro w1 ⟨z5, z4, x1⟩
    have s1 := SE.out w1 x1
    have c2 : w1.cell? ⟨g, 2, none⟩ = some (.func (.func 39) #[] #[.pointer (some ⟨q, 0, none⟩)]) := s1.cb.cell rfl
    have C1 := Lib.hid (CR.out w1 x1)
    replace z5 := Lib.hid z5
    replace z4 := Lib.hid z4
    replace x1 := Lib.hid x1
    have g45 : g4 ≠ g5 := Nat.ne_of_lt z4l
    clear CR s1
    go_wp2_with fail
    refine C1.out.mono ?_
    rintro e w2 ⟨rfl, x2⟩
    have k5 : w2.heap[g5]? = some (.cells Z 23 (0, 0)) := (x2.block _ (heap_lt z5.out)).trans z5.out
    have k4 : w2.heap[g4]? = some (.cells Z 23 (0, 0)) := (x2.block _ (heap_lt z4.out)).trans z4.out
    have K6 : Hid ((w2.setRow g5 (cellsOf ek).toArray).heap[g5]? = some (.cells (cellsOf ek).toArray 23 (0, 0)) ∧ (w2.setRow g5 (cellsOf ek).toArray).heap[g4]? = some (.cells Z 23 (0, 0)) ∧ Ext w (w2.setRow g5 (cellsOf ek).toArray)) :=
      ⟨setRow_heap _ _ _ _ _ _ k5, (setRow_other _ _ _ _ g45).trans k4, below_setRow (x1.out.trans x2) w5 _⟩
    clear C1 x1 x2 z5 z4 k4 c2
    go_upto_region 4 with (refine wpList_store_row rfl 23 _ _ rfl g5 (cellsOf ek).toArray rfl rfl 23 Z k5 (by rw [S_e]; rfl) (by rw [S_e, S_Z]) O_e ?_; simp only [Act.put])
    refine wp_gen (fun W => W.heap[g5]? = some (.cells (cellsOf ek).toArray 23 (0, 0)) ∧ W.heap[g4]? = some (.cells Z 23 (0, 0)) ∧ Ext w W) K6.out ?_
    clear K6 k5 w2
    rintro w3 ⟨k5, z4, x3⟩
    have g5b : g5 ≠ mb := by omega
    have g4b : g4 ≠ mb := by omega
    have A3 := Lib.hid (AD.out w3.drew x3.drew hn)
    have T3 : Hid (∀ s, w3.drew.grownBy s (some mb) → s.cell? ⟨g, 1, none⟩ = some (.map (some mb)) ∧ s.heap[g5]? = some (.cells (cellsOf ek).toArray 23 (0, 0)) ∧ s.heap[g4]? = some (.cells Z 23 (0, 0)) ∧ w.grownBy s (some mb)) := fun s e => by
      have hb : ∀ i, i < w3.heap.size → i ≠ mb → s.heap[i]? = w3.heap[i]? := fun i hi hne => e.block i hi (fun q => hne (Option.some.inj q))
      have s3 := SE.out w3 x3
      refine ⟨(World.cell?_of_block (hb g s3.cb.lt gnb)).trans (s3.cb.cell rfl), (hb _ (heap_lt k5) g5b).trans k5, (hb _ (heap_lt z4) g4b).trans z4, ⟨e.os.trans x3.os, e.tape.trans x3.tape, e.output.trans x3.output, Nat.le_trans x3.size e.size, fun i hi hne => (e.block i (Nat.lt_of_lt_of_le hi x3.size) hne).trans (x3.block i hi)⟩⟩
    clear AD SE k5 z4 x3
    refine qgW mb [0, 1, 2, 3, 4, 5, 6] [6] ?_
    generalize w3.drew = W at *
    repeat ((first | refine qR _ (fun w' e => (T3.out w' e).1) ?_ | refine qS ?_); go_frame)
    refine qV rfl (fun w' => w'.heap[g5]? = some (.cells (cellsOf ek).toArray 23 (0, 0))) (fun w' e => (T3.out w' e).2.1) (.agg (cellsOf ek).toArray) (fun w' hF => exec_load_row rfl rfl hF rfl rfl (by rw [S_e]; rfl)) ?_
    go_frame
    refine qD fun K hK => ?_
    obtain ⟨w4, d1, d2, d3⟩ := A3.out
    refine wp_mapUpdate rfl rfl rfl rfl d1 ?_
    refine hK.out _ _ d3 ?_
    clear hK K
    try simp only [Act.put]
    repeat ((first | refine qR0 ?_ | refine qS ?_); go_frame)
    refine seq_done ?_
    obtain ⟨_, k5, z4, gr⟩ := T3.out w4 d3
    have F : Hid ((∃ E', SR (w4.setRow g4 (cellsOf ek).toArray) g mb q root ticks E' ∧ E'.length ≤ E.length + 1) ∧ w.grownBy (w4.setRow g4 (cellsOf ek).toArray) (some mb)) := by
      have g4g : g4 ≠ g := by omega
      have q4 : q ≠ g4 := by omega
      refine ⟨⟨_, d2.stay (setRow_other _ _ _ _ (fun z => g4g z.symm)) (setRow_other _ _ _ _ q4) (setRow_other _ _ _ _ (fun z => g4b z.symm)), by simp⟩, ?_⟩
      exact ⟨gr.os, gr.tape, gr.output, by simpa using gr.size, fun i hi hne => (setRow_other _ _ _ _ (by omega)).trans (gr.block i hi hne)⟩
    clear T3 A3 d1 d2 d3 gr
    go_wp2_with (first
      | ((with_reducible refine wpList_load_rowW (o := ⟨some 30, _, _, _, _, _⟩) ?_ 23 _ rfl g5 ?_ 23 (cellsOf ek).toArray (0, 0) _ ?_ Tryd.underlying23 ?_ ?_ ?_); (· rfl); (· rfl); (· exact k5); (· rfl); (· rw [S_e]; rfl); go_frame)
      | (refine wpList_store_row rfl 23 _ _ rfl g4 (cellsOf ek).toArray rfl rfl 23 Z z4 (by rw [S_e]; rfl) (by rw [S_e, S_Z]) O_e ?_; simp only [Act.put]))
    (try simp only [Exit.inBlock, Exit.then])
    refine bodyPost_ret (results_cell_row rfl _ _ g4 23 (cellsOf ek).toArray (0, 0) _ rfl (setRow_heap _ _ _ _ _ _ z4) rfl rfl (by rw [S_e]; rfl)) rfl ?_
    exact ⟨rfl, F.out.1, F.out.2⟩
end Go.Proofs.YtbnjmmefnjoofaaDoor
