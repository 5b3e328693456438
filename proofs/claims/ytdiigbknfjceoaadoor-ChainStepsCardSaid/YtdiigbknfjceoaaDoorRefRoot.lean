import Derived.Test.YtdiigbknfjceoaaDoorRoot
import Derived.Test.YtdiigbknfjceoaaDoorPkB
import Derived.Test.YtdiigbknfjceoaaDoorRefKey
/-
  The document's Root (layer 10).
-/
namespace Go.Proofs.YtdiigbknfjceoaaDoor
open Go.ChangeShapes Go.WideShapes Go.ChangeAt Go.RowKit Go.Deep

theorem lit_rootS : (⟨#[114, 111, 111, 116]⟩ : ByteArray) = strL rootS := rfl
theorem lit_chnS : (⟨#[99, 104, 97, 105, 110]⟩ : ByteArray) = strL chnS := rfl

set_option maxRecDepth 100000 in
set_option maxHeartbeats 2000000 in
theorem refRoot_calls {rs cs : List UInt8} {w : World} (hr : rs.length = 32) (hc : cs.length = 32) :
    Calls Tryd.prog 31 #[.agg (cellsOf rs).toArray, .agg (cellsOf cs).toArray] w (RetTwo (keyL (macL rs cs) rootS) (keyL (macL rs cs) chnS) w) := by
  have ML := macL_len rs cs
  have DRAW : Hid (∀ (W : World) (g : Nat), Ky W g cs → Calls Tryd.prog 24 #[.agg (cellsOf rs).toArray, .slice (some ⟨g, 0, none⟩) 32 32] W fun e w' => e = .returned (.agg (cellsOf (macL rs cs)).toArray) ∧ Ext W w') := fun W g k => refDraw_calls hr k.bs (by decide)
  have KEYR : Hid (∀ (W : World), Calls Tryd.prog 26 #[.agg (cellsOf (macL rs cs)).toArray, .string ⟨#[114, 111, 111, 116]⟩] W fun e w' => e = .returned (.agg (cellsOf (keyL (macL rs cs) rootS)).toArray) ∧ Ext W w') := fun W => by
    rw [lit_rootS]
    exact refKey_calls ML (by decide)
  have KEYC : Hid (∀ (W : World), Calls Tryd.prog 26 #[.agg (cellsOf (macL rs cs)).toArray, .string ⟨#[99, 104, 97, 105, 110]⟩] W fun e w' => e = .returned (.agg (cellsOf (keyL (macL rs cs) chnS)).toArray) ∧ Ext W w') := fun W => by
    rw [lit_chnS]
    exact refKey_calls ML (by decide)
  have K0 := keyL_len (macL rs cs) rootS
  have K1 := keyL_len (macL rs cs) chnS
  generalize keyL (macL rs cs) rootS = k0 at *
  generalize keyL (macL rs cs) chnS = k1 at *
  have DS : (cellsOf (macL rs cs)).toArray.size = 32 := by simp [cellsOf_len, ML]
  have D1 := cellsOf_one (macL rs cs)
  generalize (cellsOf (macL rs cs)).toArray = D at *
  have RS : (cellsOf rs).toArray.size = 32 := by simp [cellsOf_len, hr]
  have C0 : (cellsOf k0).length = 32 := by rw [cellsOf_len, K0]
  have C1 : (cellsOf k1).length = 32 := by rw [cellsOf_len, K1]
  have S0 : (cellsOf k0).toArray.size = 32 := C0
  have S1 : (cellsOf k1).toArray.size = 32 := C1
  have O0 := cellsOf_one k0
  have O1 := cellsOf_one k1
  have hal := key_alloc
  have hz0 := zeros32_size
  generalize zeros32 = Z at *
  have B0 : Hid (Ky ((((w.alloc (Obj.cells (cellsOf rs).toArray 25)).alloc (Obj.cells (cellsOf cs).toArray 25)).alloc (Obj.cells Z 25)).alloc (Obj.cells Z 25)) w.heap.size rs ∧ Ky ((((w.alloc (Obj.cells (cellsOf rs).toArray 25)).alloc (Obj.cells (cellsOf cs).toArray 25)).alloc (Obj.cells Z 25)).alloc (Obj.cells Z 25)) (w.heap.size + 1) cs ∧ ((((w.alloc (Obj.cells (cellsOf rs).toArray 25)).alloc (Obj.cells (cellsOf cs).toArray 25)).alloc (Obj.cells Z 25)).alloc (Obj.cells Z 25)).heap[w.heap.size + 1 + 1]? = some (.cells Z 25 (0, 0)) ∧ ((((w.alloc (Obj.cells (cellsOf rs).toArray 25)).alloc (Obj.cells (cellsOf cs).toArray 25)).alloc (Obj.cells Z 25)).alloc (Obj.cells Z 25)).heap[w.heap.size + 1 + 1 + 1]? = some (.cells Z 25 (0, 0)) ∧ Ext w ((((w.alloc (Obj.cells (cellsOf rs).toArray 25)).alloc (Obj.cells (cellsOf cs).toArray 25)).alloc (Obj.cells Z 25)).alloc (Obj.cells Z 25))) :=
    ⟨⟨alloc4_0 _ _ _ _ _, hr⟩, ⟨alloc4_1 _ _ _ _ _, hc⟩, alloc4_2 _ _ _ _ _, alloc4_3 _ _ _ _ _, ((((Ext.refl w).alloc _).alloc _).alloc _).alloc _⟩
  go_enter Tryd.func31, Tryd.ntmps31
  go_upto_region 1 with fail
  refine wp_gen (fun W => Ky W w.heap.size rs ∧ Ky W (w.heap.size + 1) cs ∧ W.heap[w.heap.size + 1 + 1]? = some (.cells Z 25 (0, 0)) ∧ W.heap[w.heap.size + 1 + 1 + 1]? = some (.cells Z 25 (0, 0)) ∧ Ext w W) B0.out ?_
  clear B0
  rintro w0 ⟨b0, b1, b2, b3, E0⟩
  have z0 := heap_lt b3
  replace E0 := Lib.hid E0
  have B0 : Hid (∀ w', Ext w0 w' → Ky w' w.heap.size rs ∧ Ky w' (w.heap.size + 1) cs ∧ w'.heap[w.heap.size + 1 + 1]? = some (.cells Z 25 (0, 0)) ∧ w'.heap[w.heap.size + 1 + 1 + 1]? = some (.cells Z 25 (0, 0)) ∧ Ext w w') := fun w' e => ⟨b0.ext e, b1.ext e, (e.block _ (heap_lt b2)).trans b2, (e.block _ (heap_lt b3)).trans b3, E0.out.trans e⟩
  clear b0 b1 b2 b3 E0
  go_wp2_with fail
  go_cut [6] (fun s6 wx => ∃ g : Nat, s6 = .pointer (some ⟨g, 0, none⟩) ∧ Below w0.heap.size w0 wx ∧ wx.heap[g]? = some (.cells D 25 (0, 0)) ∧ w0.heap.size ≤ g)
  case first =>
    refine wp_region_tree (R := Below w0.heap.size) (Below.refl _) (fun _ _ _ => Below.trans) (.rd 0 (.rd 1 (.alt 2 (.alt 3 (.alt 4 .nil .stop) .stop) (.alt 3 (.alt 2 (.alt 4 .nil .stop) .stop) .stop)))) [(0, 8, 8), (0, 9, 16), (3, 10, 768), (0, 7, 0), (15, 0, 1152)] 5 (by kernel_rfl) (by kernel_rfl) (by kernel_rfl) rfl (by kernel_rfl) (by kernel_rfl) (fun _ _ d _ _ h => by cases d <;> exact h) ?_
    refine seqT_read (fun w' => w'.heap[w.heap.size]? = some (.cells (cellsOf rs).toArray 25 (0, 0))) (fun w' e => (B0.out w' (Ext.trans (Ext.refl _).drew e)).1.1) _ (v := .agg (cellsOf rs).toArray) rfl (by rfl) (fun w' hF => exec_load_row rfl rfl hF rfl rfl (by rw [RS]; rfl)) ?_
    simp only [Act.put, List.setIfInBounds_toArray, List.set_cons_zero, List.set_cons_succ]
    repeat (first | (refine seqT_read (fun _ => True) (fun _ _ => trivial) _ (v := ?_) rfl ?_ ?_ ?_; rotate_left; (· rfl); (· intro w' hF; go_simp; (try with_reducible rfl)); simp only [Act.put, List.setIfInBounds_toArray, List.set_cons_zero, List.set_cons_succ]) | (refine seqT_skip _ rfl ?_ ?_; (· rfl); simp only [Act.put, List.setIfInBounds_toArray, List.set_cons_zero, List.set_cons_succ]))
    have SE : Hid (Ext w0 w0.drew) := (Ext.refl w0).drew
    generalize w0.drew = WC at *
    repeat' (first
      | exact seqT_stop
      | (refine seqT_do (i := 2) _ rfl ?_ ?_ (fun K1 hK1 => ?_)
         (· rfl)
         rotate_left
         go_simp
         refine (DRAW.out _ _ (B0.out _ SE.out).2.1).mono ?_
         rintro e0 WC ⟨rfl, e⟩
         refine hK1.out _ _ (e.mono SE.out.size) ?_
         clear hK1 K1
         (try replace hL := Lib.hid ((e.block _ (heap_lt hL.out)).trans hL.out))
         replace SE := Lib.hid (SE.out.trans e)
         clear e
         (try simp only [Act.put, List.setIfInBounds_toArray, List.set_cons_zero, List.set_cons_succ])
         repeat (first | (refine seqT_read (fun _ => True) (fun _ _ => trivial) _ (v := ?_) rfl ?_ ?_ ?_; rotate_left; (· rfl); (· intro w' hF; go_simp; (try with_reducible rfl)); simp only [Act.put, List.setIfInBounds_toArray, List.set_cons_zero, List.set_cons_succ]) | (refine seqT_skip _ rfl ?_ ?_; (· rfl); simp only [Act.put, List.setIfInBounds_toArray, List.set_cons_zero, List.set_cons_succ]))
         skip)
      | (refine seqT_do (i := 3) _ rfl ?_ ?_ (fun K1 hK1 => ?_)
         (· rfl)
         rotate_left
         go_simp
         have e : Ext WC (WC.alloc (Obj.cells Z 25)) := (Ext.refl WC).alloc _
         obtain ⟨gL, hgL⟩ : ∃ g, g = WC.heap.size := ⟨_, rfl⟩
         have hL := Lib.hid (heap_alloc_new WC (Obj.cells Z 25))
         rw [← hgL] at hL ⊢
         have zl : w0.heap.size ≤ gL := by rw [hgL]; exact SE.out.size
         refine hK1.out _ _ (e.mono SE.out.size) ?_
         clear hK1 K1
         replace hgL := Lib.hid hgL
         replace SE := Lib.hid (SE.out.trans e)
         clear e
         generalize WC.alloc (Obj.cells Z 25) = WC at *
         (try simp only [Act.put, List.setIfInBounds_toArray, List.set_cons_zero, List.set_cons_succ])
         repeat (first | (refine seqT_read (fun _ => True) (fun _ _ => trivial) _ (v := ?_) rfl ?_ ?_ ?_; rotate_left; (· rfl); (· intro w' hF; go_simp; (try with_reducible rfl)); simp only [Act.put, List.setIfInBounds_toArray, List.set_cons_zero, List.set_cons_succ]) | (refine seqT_skip _ rfl ?_ ?_; (· rfl); simp only [Act.put, List.setIfInBounds_toArray, List.set_cons_zero, List.set_cons_succ]))
         skip)
      | (refine seqT_do (i := 4) _ rfl ?_ ?_ (fun K1 hK1 => ?_)
         (· rfl)
         rotate_left
         refine wp_store_row _ _ _ rfl gL D rfl rfl 25 Z hL.out (by rw [DS]; rfl) (by rw [DS]; exact hz0) D1 ?_
         refine hK1.out _ _ (below_setRow (Below.refl _ _) zl _) ?_
         clear hK1 K1
         have S1 : Hid (Below w0.heap.size w0 (WC.setRow gL D)) := below_setRow SE.out zl _
         have kx : Hid ((WC.setRow gL D).heap[gL]? = some (.cells D 25 (0, 0))) := setRow_heap _ _ _ _ _ _ hL.out
         (try simp only [Act.put, List.setIfInBounds_toArray, List.set_cons_zero, List.set_cons_succ])
         repeat (first | (refine seqT_read (fun _ => True) (fun _ _ => trivial) _ (v := ?_) rfl ?_ ?_ ?_; rotate_left; (· rfl); (· intro w' hF; go_simp; (try with_reducible rfl)); simp only [Act.put, List.setIfInBounds_toArray, List.set_cons_zero, List.set_cons_succ]) | (refine seqT_skip _ rfl ?_ ?_; (· rfl); simp only [Act.put, List.setIfInBounds_toArray, List.set_cons_zero, List.set_cons_succ]))
         refine seqT_done ?_
         go_wp2_with fail
         go_meet
         exact ⟨gL, rfl, S1.out, kx.out, zl⟩)
      )
  case rest =>
    obtain ⟨g, rfl, E1, kr, hg⟩ := hcut
    have b1 : Hid (wc.heap[w.heap.size + 1 + 1]? = some (.cells Z 25 (0, 0)) ∧ wc.heap[w.heap.size + 1 + 1 + 1]? = some (.cells Z 25 (0, 0)) ∧ Ext w wc) := (B0.out _ E1).2.2
    have zg : w.heap.size + 1 + 1 + 1 < g := by omega
    clear DRAW E1 hg B0
    have R0 : Hid (∀ w', Two (w.heap.size + 1 + 1) (w.heap.size + 1 + 1 + 1) wc w' → w'.heap[g]? = some (.cells D 25 (0, 0))) := fun w' e => (e.block kr (by omega) (by omega))
    clear kr
    go_wp2_with fail
    refine wp_region_seq (R := Two (w.heap.size + 1 + 1) (w.heap.size + 1 + 1 + 1)) (Two.refl _ _) (fun _ _ _ => Two.trans) [0, 2, 1, 3, 4, 5] [1, 3, 4, 5] [(0, 11, 128), (1, 12, 2048), (0, 13, 128), (6, 14, 8192), (11, 0, 4128), (31, 0, 16448)] (by kernel_rfl) (by kernel_rfl) (by kernel_rfl) rfl (by kernel_rfl) (by kernel_rfl) (fun _ _ d _ _ h => by cases d <;> exact h) ?_
    refine seq_read (fun w' => w'.heap[g]? = some (.cells D 25 (0, 0))) (fun w' e => R0.out w' ((Two.of_ext (Ext.refl _).drew).trans e)) _ (v := .agg D) rfl rfl (by rfl) (fun w' hF => exec_load_row rfl rfl hF rfl rfl (by rw [DS]; rfl)) ?_
    simp only [Act.put, List.setIfInBounds_toArray, List.set_cons_zero, List.set_cons_succ]
    refine seq_read (fun w' => w'.heap[g]? = some (.cells D 25 (0, 0))) (fun w' e => R0.out w' ((Two.of_ext (Ext.refl _).drew).trans e)) _ (v := .agg D) rfl rfl (by rfl) (fun w' hF => exec_load_row rfl rfl hF rfl rfl (by rw [DS]; rfl)) ?_
    simp only [Act.put, List.setIfInBounds_toArray, List.set_cons_zero, List.set_cons_succ]
    have b2 : Hid (wc.drew.heap[w.heap.size + 1 + 1]? = some (.cells Z 25 (0, 0)) ∧ wc.drew.heap[w.heap.size + 1 + 1 + 1]? = some (.cells Z 25 (0, 0)) ∧ Ext w wc.drew) := ⟨b1.out.1, b1.out.2.1, b1.out.2.2.drew⟩
    generalize wc.drew = W at *
    refine seq_do _ rfl rfl (by rfl) (fun K hK => ?_)
    go_simp
    refine (KEYR.out _).mono ?_
    rintro e w4 ⟨rfl, e4⟩
    refine hK.out _ _ (Two.of_ext e4) ?_
    clear hK K
    try simp only [Act.put, List.setIfInBounds_toArray, List.set_cons_zero, List.set_cons_succ]
    refine seq_do _ rfl rfl (by rfl) (fun K hK => ?_)
    go_simp
    refine (KEYC.out _).mono ?_
    rintro e w5 ⟨rfl, e5⟩
    refine hK.out _ _ (Two.of_ext e5) ?_
    clear hK K
    try simp only [Act.put, List.setIfInBounds_toArray, List.set_cons_zero, List.set_cons_succ]
    have b3 : Hid (w5.heap[w.heap.size + 1 + 1]? = some (.cells Z 25 (0, 0)) ∧ w5.heap[w.heap.size + 1 + 1 + 1]? = some (.cells Z 25 (0, 0)) ∧ Ext w w5) := ⟨((e4.trans e5).block _ (heap_lt b2.out.1)).trans b2.out.1, ((e4.trans e5).block _ (heap_lt b2.out.2.1)).trans b2.out.2.1, b2.out.2.2.trans (e4.trans e5)⟩
    clear e4 e5 b2
    have b2 := b3
    clear b3
    refine seq_do _ rfl rfl (by rfl) (fun K hK => ?_)
    refine wp_store_row _ _ _ rfl (w.heap.size + 1 + 1) (cellsOf k0).toArray rfl rfl 25 Z b2.out.1 (by rw [S0]; rfl) (by rw [S0]; exact hz0) O0 ?_
    refine hK.out _ _ (Two.row _ _) ?_
    clear hK K
    try simp only [Act.put, List.setIfInBounds_toArray, List.set_cons_zero, List.set_cons_succ]
    refine seq_do _ rfl rfl (by rfl) (fun K hK => ?_)
    refine wp_store_row _ _ _ rfl (w.heap.size + 1 + 1 + 1) (cellsOf k1).toArray rfl rfl 25 Z ((setRow_other _ _ _ _ (by omega)).trans b2.out.2.1) (by rw [S1]; rfl) (by rw [S1]; exact hz0) O1 ?_
    refine hK.out _ _ (Two.row' _ _) ?_
    clear hK K
    try simp only [Act.put, List.setIfInBounds_toArray, List.set_cons_zero, List.set_cons_succ]
    refine seq_done ?_
    have f0 : Hid (((w5.setRow (w.heap.size + 1 + 1) (cellsOf k0).toArray).setRow (w.heap.size + 1 + 1 + 1) (cellsOf k1).toArray).heap[w.heap.size + 1 + 1]? = some (.cells (cellsOf k0).toArray 25 (0, 0))) := (setRow_other _ _ _ _ (by omega)).trans (setRow_heap _ _ _ _ _ _ b2.out.1)
    have f1 : Hid (((w5.setRow (w.heap.size + 1 + 1) (cellsOf k0).toArray).setRow (w.heap.size + 1 + 1 + 1) (cellsOf k1).toArray).heap[w.heap.size + 1 + 1 + 1]? = some (.cells (cellsOf k1).toArray 25 (0, 0))) := setRow_heap _ _ _ _ _ _ ((setRow_other _ _ _ _ (by omega)).trans b2.out.2.1)
    have f2 : Hid (Ext w ((w5.setRow (w.heap.size + 1 + 1) (cellsOf k0).toArray).setRow (w.heap.size + 1 + 1 + 1) (cellsOf k1).toArray)) := below_setRow (below_setRow b2.out.2.2 (by omega) _) (by omega) _
    go_wp2_with fail
    (try simp only [Exit.inBlock, Exit.then])
    refine bodyPost_ret (v := .tuple #[.agg (cellsOf k0).toArray, .agg (cellsOf k1).toArray]) ?_ rfl ?_
    · exact results_rr rfl _ _ (w.heap.size + 1 + 1) (w.heap.size + 1 + 1 + 1) 25 25 (cellsOf k0).toArray (cellsOf k1).toArray (0, 0) (0, 0) _ rfl rfl f0.out f1.out rfl rfl (by rw [S0]; rfl) (by rw [S1]; rfl)
    · exact ⟨rfl, f2.out⟩
end Go.Proofs.YtdiigbknfjceoaaDoor
