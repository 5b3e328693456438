import Derived.Test.YtdiigbknfjceoaaDoorPkF
import Derived.Test.YtdiigbknfjceoaaDoorDraw
/-
  chain.Root.
-/
namespace Go.Proofs.YtdiigbknfjceoaaDoor
open Go.ChangeShapes Go.WideShapes Go.ChangeAt Go.RowKit Go.Deep

def rootS : List UInt8 := [114, 111, 111, 116]
theorem lit_root (W : World) : Ss (W.alloc (.cells #[.string ⟨#[114, 111, 111, 116]⟩, .string ⟨#[99, 104, 97, 105, 110]⟩] 9)) (some ⟨W.heap.size, 0, none⟩) 2 [rootS, chnS] := str_lit rfl

set_option maxRecDepth 100000 in
set_option maxHeartbeats 2000000 in
theorem root_calls {rs cs : List UInt8} {w : World} (hr : rs.length = 32) (hc : cs.length = 32) {tg : TypeId × Nat × Nat} (hG : Gl w tg) :
    Calls Tryd.prog 30 #[.agg (cellsOf rs).toArray, .agg (cellsOf cs).toArray] w (RetTwo (keyL (macL rs cs) rootS) (keyL (macL rs cs) chnS) w) := by
  have ML := macL_len rs cs
  have DRAW : Hid (∀ (W : World) (g : Nat), Ext w W → Ky W g cs → Calls Tryd.prog 23 #[.agg (cellsOf rs).toArray, .slice (some ⟨g, 0, none⟩) 32 32] W fun e w' => e = .returned (.agg (cellsOf (macL rs cs)).toArray) ∧ Ext W w') := fun W g e k => draw_calls hr k.bs (hG.kept e hG.lt)
  have KEYS : Hid (∀ (W : World) (g : Nat), Ext w W → Ss W (some ⟨g, 0, none⟩) 2 [rootS, chnS] → Calls Tryd.prog 25 #[.agg (cellsOf (macL rs cs)).toArray, .slice (some ⟨g, 0, none⟩) 2 2] W (RetKs [keyL (macL rs cs) rootS, keyL (macL rs cs) chnS] W)) := fun W g e s =>
    keys_calls (ks := macL rs cs) (l := [rootS, chnS]) ML s (by omega) (fun j => by
      match j with
      | 0 => show rootS.length ≤ _; decide
      | 1 => show chnS.length ≤ _; decide
      | j + 2 => simp [List.getD]) (hG.kept e hG.lt)
  clear hG
  have K0 := keyL_len (macL rs cs) rootS
  have K1 := keyL_len (macL rs cs) chnS
  generalize keyL (macL rs cs) rootS = k0 at *
  generalize keyL (macL rs cs) chnS = k1 at *
  generalize (cellsOf (macL rs cs)).toArray = D at *
  have RS : (cellsOf rs).toArray.size = 32 := by simp [cellsOf_len, hr]
  have C0 : (cellsOf k0).length = 32 := by rw [cellsOf_len, K0]
  have C1 : (cellsOf k1).length = 32 := by rw [cellsOf_len, K1]
  have S0 : (cellsOf k0).toArray.size = 32 := C0
  have S1 : (cellsOf k1).toArray.size = 32 := C1
  have O0 := cellsOf_one k0
  have O1 := cellsOf_one k1
  have hal := key_alloc
  have hz0 := zeros32_size
  generalize zeros32 = Z at *
  have B0 : Hid (Ky ((((w.alloc (Obj.cells (cellsOf rs).toArray 25)).alloc (Obj.cells (cellsOf cs).toArray 25)).alloc (Obj.cells Z 25)).alloc (Obj.cells Z 25)) w.heap.size rs ∧ Ky ((((w.alloc (Obj.cells (cellsOf rs).toArray 25)).alloc (Obj.cells (cellsOf cs).toArray 25)).alloc (Obj.cells Z 25)).alloc (Obj.cells Z 25)) (w.heap.size + 1) cs ∧ ((((w.alloc (Obj.cells (cellsOf rs).toArray 25)).alloc (Obj.cells (cellsOf cs).toArray 25)).alloc (Obj.cells Z 25)).alloc (Obj.cells Z 25)).heap[w.heap.size + 1 + 1]? = some (.cells Z 25 (0, 0)) ∧ ((((w.alloc (Obj.cells (cellsOf rs).toArray 25)).alloc (Obj.cells (cellsOf cs).toArray 25)).alloc (Obj.cells Z 25)).alloc (Obj.cells Z 25)).heap[w.heap.size + 1 + 1 + 1]? = some (.cells Z 25 (0, 0)) ∧ Ext w ((((w.alloc (Obj.cells (cellsOf rs).toArray 25)).alloc (Obj.cells (cellsOf cs).toArray 25)).alloc (Obj.cells Z 25)).alloc (Obj.cells Z 25))) :=
    ⟨⟨alloc4_0 _ _ _ _ _, hr⟩, ⟨alloc4_1 _ _ _ _ _, hc⟩, alloc4_2 _ _ _ _ _, alloc4_3 _ _ _ _ _, ((((Ext.refl w).alloc _).alloc _).alloc _).alloc _⟩
  go_enter Tryd.func30, Tryd.ntmps30
  go_upto_region 1 with fail
  refine wp_gen (fun W => Ky W w.heap.size rs ∧ Ky W (w.heap.size + 1) cs ∧ W.heap[w.heap.size + 1 + 1]? = some (.cells Z 25 (0, 0)) ∧ W.heap[w.heap.size + 1 + 1 + 1]? = some (.cells Z 25 (0, 0)) ∧ Ext w W) B0.out ?_
  clear B0
  rintro w0 ⟨b0, b1, b2, b3, E0⟩
  have z0 := heap_lt b3
  replace E0 := Lib.hid E0
  have B0 : Hid (∀ w', Ext w0 w' → Ky w' w.heap.size rs ∧ Ky w' (w.heap.size + 1) cs ∧ w'.heap[w.heap.size + 1 + 1]? = some (.cells Z 25 (0, 0)) ∧ w'.heap[w.heap.size + 1 + 1 + 1]? = some (.cells Z 25 (0, 0)) ∧ Ext w w') := fun w' e => ⟨b0.ext e, b1.ext e, (e.block _ (heap_lt b2)).trans b2, (e.block _ (heap_lt b3)).trans b3, E0.out.trans e⟩
  clear b0 b1 b2 b3 E0
  go_wp2_with fail
  go_cut [6] (fun s6 wx => ∃ g : Nat, s6 = .slice (some ⟨g, 0, none⟩) 2 2 ∧ Ext w0 wx ∧ Kr wx g [k0, k1] ∧ w0.heap.size ≤ g)
  case first =>
    refine wp_region_tree (R := Ext) Ext.refl (fun _ _ _ => Ext.trans) (.rd 0 (.rd 1 (.alt 2 (.alt 3 (.alt 4 (.rd 5 .nil) .stop) .stop) (.alt 3 (.alt 2 (.alt 4 (.rd 5 .nil) .stop) .stop) .stop)))) [(0, 8, 8), (0, 9, 16), (3, 10, 768), (0, 11, 0), (12, 12, 3072), (31, 7, 4096)] 6 (by kernel_rfl) (by kernel_rfl) (by kernel_rfl) rfl (by kernel_rfl) (by kernel_rfl) (fun _ _ d _ _ h => by cases d <;> exact h) ?_
    refine seqT_read (fun w' => w'.heap[w.heap.size]? = some (.cells (cellsOf rs).toArray 25 (0, 0))) (fun w' e => (B0.out w' ((Ext.refl _).drew.trans e)).1.1) _ (v := .agg (cellsOf rs).toArray) rfl (by rfl) (fun w' hF => exec_load_row rfl rfl hF rfl rfl (by rw [RS]; rfl)) ?_
    simp only [Act.put, List.setIfInBounds_toArray, List.set_cons_zero, List.set_cons_succ]
    repeat (first | (refine seqT_read (fun _ => True) (fun _ _ => trivial) _ (v := ?_) rfl ?_ ?_ ?_; rotate_left; (· rfl); (· intro w' hF; go_simp; (try with_reducible rfl)); simp only [Act.put, List.setIfInBounds_toArray, List.set_cons_zero, List.set_cons_succ]) | (refine seqT_skip _ rfl ?_ ?_; (· rfl); simp only [Act.put, List.setIfInBounds_toArray, List.set_cons_zero, List.set_cons_succ]))
    have SE : Hid (Ext w0 w0.drew) := (Ext.refl w0).drew
    generalize w0.drew = WC at *
    repeat' (first
      | exact seqT_stop
      | (refine seqT_do (i := 2) _ rfl ?_ ?_ (fun K1 hK1 => ?_)
         (· rfl)
         rotate_left
         go_simp
         refine (DRAW.out _ _ (B0.out _ SE.out).2.2.2.2 (B0.out _ SE.out).2.1).mono ?_
         rintro e0 WC ⟨rfl, e⟩
         refine hK1.out _ _ e ?_
         clear hK1 K1
         (try replace hS := Lib.hid (hS.out.ext e))
         replace SE := Lib.hid (SE.out.trans e)
         clear e
         (try simp only [Act.put, List.setIfInBounds_toArray, List.set_cons_zero, List.set_cons_succ])
         repeat (first | (refine seqT_read (fun _ => True) (fun _ _ => trivial) _ (v := ?_) rfl ?_ ?_ ?_; rotate_left; (· rfl); (· intro w' hF; go_simp; (try with_reducible rfl)); simp only [Act.put, List.setIfInBounds_toArray, List.set_cons_zero, List.set_cons_succ]) | (refine seqT_skip _ rfl ?_ ?_; (· rfl); simp only [Act.put, List.setIfInBounds_toArray, List.set_cons_zero, List.set_cons_succ]))
         skip)
      | (refine seqT_do (i := 3) _ rfl ?_ ?_ (fun K1 hK1 => ?_)
         (· rfl)
         rotate_left
         go_simp
         have hS := Lib.hid (lit_root WC)
         have e := (Ext.refl WC).alloc (Obj.cells #[.string ⟨#[114, 111, 111, 116]⟩, .string ⟨#[99, 104, 97, 105, 110]⟩] 9)
         obtain ⟨gS, hgS⟩ : ∃ g, g = WC.heap.size := ⟨_, rfl⟩
         rw [← hgS] at hS ⊢
         refine hK1.out _ _ e ?_
         clear hK1 K1
         replace hgS := Lib.hid hgS
         replace SE := Lib.hid (SE.out.trans e)
         clear e
         generalize WC.alloc (Obj.cells #[.string ⟨#[114, 111, 111, 116]⟩, .string ⟨#[99, 104, 97, 105, 110]⟩] 9) = WC at *
         (try simp only [Act.put, List.setIfInBounds_toArray, List.set_cons_zero, List.set_cons_succ])
         repeat (first | (refine seqT_read (fun _ => True) (fun _ _ => trivial) _ (v := ?_) rfl ?_ ?_ ?_; rotate_left; (· rfl); (· intro w' hF; go_simp; (try with_reducible rfl)); simp only [Act.put, List.setIfInBounds_toArray, List.set_cons_zero, List.set_cons_succ]) | (refine seqT_skip _ rfl ?_ ?_; (· rfl); simp only [Act.put, List.setIfInBounds_toArray, List.set_cons_zero, List.set_cons_succ]))
         skip)
      | (refine seqT_do (i := 4) _ rfl ?_ ?_ (fun K1 hK1 => ?_)
         (· rfl)
         rotate_left
         go_simp
         have hz := SE.out.size
         refine (KEYS.out _ _ (B0.out _ SE.out).2.2.2.2 hS.out).mono ?_
         rintro e0 WC ⟨g, rfl, hg, kr, e⟩
         refine hK1.out _ _ e ?_
         clear hK1 K1 hS
         replace hg := Lib.hid (Nat.le_trans hz hg)
         replace SE := Lib.hid (SE.out.trans e)
         replace kr := Lib.hid kr
         clear e hz
         (try simp only [Act.put, List.setIfInBounds_toArray, List.set_cons_zero, List.set_cons_succ])
         repeat (first | (refine seqT_read (fun _ => True) (fun _ _ => trivial) _ (v := ?_) rfl ?_ ?_ ?_; rotate_left; (· rfl); (· intro w' hF; go_simp; (try with_reducible rfl)); simp only [Act.put, List.setIfInBounds_toArray, List.set_cons_zero, List.set_cons_succ]) | (refine seqT_skip _ rfl ?_ ?_; (· rfl); simp only [Act.put, List.setIfInBounds_toArray, List.set_cons_zero, List.set_cons_succ]))
         refine seqT_done ?_
         go_wp2_with fail
         go_meet
         exact ⟨g, rfl, SE.out, kr.out, hg.out⟩)
      )
  case rest =>
    obtain ⟨g, rfl, E1, kr, hg⟩ := hcut
    have b1 : Hid (wc.heap[w.heap.size + 1 + 1]? = some (.cells Z 25 (0, 0)) ∧ wc.heap[w.heap.size + 1 + 1 + 1]? = some (.cells Z 25 (0, 0)) ∧ Ext w wc) := (B0.out _ E1).2.2
    have zg : w.heap.size + 1 + 1 + 1 < g := by omega
    clear DRAW KEYS E1 hg B0
    have R0 : Hid (∀ w', Two (w.heap.size + 1 + 1) (w.heap.size + 1 + 1 + 1) wc w' → ∀ i v, (cellsOf k0)[i]? = some v → w'.cell? ⟨g, 0 + i, none⟩ = some v) := fun w' e => Kr.row (l := [k0, k1]) (j := 0) ⟨e.block kr.1 (by omega) (by omega), kr.2⟩ (by simp)
    have R1 : Hid (∀ w', Two (w.heap.size + 1 + 1) (w.heap.size + 1 + 1 + 1) wc w' → ∀ i v, (cellsOf k1)[i]? = some v → w'.cell? ⟨g, 32 + i, none⟩ = some v) := fun w' e => Kr.row (l := [k0, k1]) (j := 1) ⟨e.block kr.1 (by omega) (by omega), kr.2⟩ (by simp)
    clear kr
    go_wp2_with fail
    refine wp_region_seq (R := Two (w.heap.size + 1 + 1) (w.heap.size + 1 + 1 + 1)) (Two.refl _ _) (fun _ _ _ => Two.trans) [0, 1, 2, 3, 4, 5, 6, 7] [6, 7] [(0, 13, 128), (1, 14, 8192), (2, 15, 16384), (0, 16, 128), (8, 17, 65536), (16, 18, 131072), (7, 0, 32800), (127, 0, 262208)] (by kernel_rfl) (by kernel_rfl) (by kernel_rfl) rfl (by kernel_rfl) (by kernel_rfl) (fun _ _ d _ _ h => by cases d <;> exact h) ?_
    repeat (first | (refine seq_read (fun _ => True) (fun _ _ => trivial) _ (v := ?_) rfl rfl (by rfl) ?_ ?_; rotate_left; (· intro w' hF; go_simp; (try with_reducible rfl)); simp only [Act.put, List.setIfInBounds_toArray, List.set_cons_zero, List.set_cons_succ]) | (refine seq_skip _ rfl rfl (by rfl) ?_; simp only [Act.put, List.setIfInBounds_toArray, List.set_cons_zero, List.set_cons_succ]))
    refine seq_read (fun w' => ∀ j v, (cellsOf k0)[j]? = some v → w'.cell? ⟨g, 0 + j, none⟩ = some v) (fun w' e => R0.out w' ((Two.of_ext (Ext.refl _).drew).trans e)) _ (v := .agg (cellsOf k0).toArray) rfl rfl (by rfl) (fun w' hF => exec_load_mid rfl rfl hF rfl rfl (by rw [C0]; rfl)) ?_
    simp only [Act.put, List.setIfInBounds_toArray, List.set_cons_zero, List.set_cons_succ]
    repeat (first | (refine seq_read (fun _ => True) (fun _ _ => trivial) _ (v := ?_) rfl rfl (by rfl) ?_ ?_; rotate_left; (· intro w' hF; go_simp; (try with_reducible rfl)); simp only [Act.put, List.setIfInBounds_toArray, List.set_cons_zero, List.set_cons_succ]) | (refine seq_skip _ rfl rfl (by rfl) ?_; simp only [Act.put, List.setIfInBounds_toArray, List.set_cons_zero, List.set_cons_succ]))
    refine seq_read (fun w' => ∀ j v, (cellsOf k1)[j]? = some v → w'.cell? ⟨g, 32 + j, none⟩ = some v) (fun w' e => R1.out w' ((Two.of_ext (Ext.refl _).drew).trans e)) _ (v := .agg (cellsOf k1).toArray) rfl rfl (by rfl) (fun w' hF => exec_load_mid rfl rfl hF rfl rfl (by rw [C1]; rfl)) ?_
    simp only [Act.put, List.setIfInBounds_toArray, List.set_cons_zero, List.set_cons_succ]
    have b2 : Hid (wc.drew.heap[w.heap.size + 1 + 1]? = some (.cells Z 25 (0, 0)) ∧ wc.drew.heap[w.heap.size + 1 + 1 + 1]? = some (.cells Z 25 (0, 0)) ∧ Ext w wc.drew) := ⟨b1.out.1, b1.out.2.1, b1.out.2.2.drew⟩
    generalize wc.drew = W at *
    refine seq_do _ rfl rfl (by rfl) (fun K hK => ?_)
    refine wp_store_row _ _ _ rfl (w.heap.size + 1 + 1) (cellsOf k0).toArray rfl rfl 25 Z b2.out.1 (by rw [S0]; rfl) (by rw [S0]; exact hz0) O0 ?_
    refine hK.out _ _ (Two.row _ _) ?_
    clear hK K
    try simp only [Act.put, List.setIfInBounds_toArray, List.set_cons_zero, List.set_cons_succ]
    refine seq_do _ rfl rfl (by rfl) (fun K hK => ?_)
    refine wp_store_row _ _ _ rfl (w.heap.size + 1 + 1 + 1) (cellsOf k1).toArray rfl rfl 25 Z ((setRow_other _ _ _ _ (by omega)).trans b2.out.2.1) (by rw [S1]; rfl) (by rw [S1]; exact hz0) O1 ?_
    refine hK.out _ _ (Two.row' _ _) ?_
    clear hK K
    try simp only [Act.put, List.setIfInBounds_toArray, List.set_cons_zero, List.set_cons_succ]
    refine seq_done ?_
    have f0 : Hid (((W.setRow (w.heap.size + 1 + 1) (cellsOf k0).toArray).setRow (w.heap.size + 1 + 1 + 1) (cellsOf k1).toArray).heap[w.heap.size + 1 + 1]? = some (.cells (cellsOf k0).toArray 25 (0, 0))) := (setRow_other _ _ _ _ (by omega)).trans (setRow_heap _ _ _ _ _ _ b2.out.1)
    have f1 : Hid (((W.setRow (w.heap.size + 1 + 1) (cellsOf k0).toArray).setRow (w.heap.size + 1 + 1 + 1) (cellsOf k1).toArray).heap[w.heap.size + 1 + 1 + 1]? = some (.cells (cellsOf k1).toArray 25 (0, 0))) := setRow_heap _ _ _ _ _ _ ((setRow_other _ _ _ _ (by omega)).trans b2.out.2.1)
    have f2 : Hid (Ext w ((W.setRow (w.heap.size + 1 + 1) (cellsOf k0).toArray).setRow (w.heap.size + 1 + 1 + 1) (cellsOf k1).toArray)) := below_setRow (below_setRow b2.out.2.2 (by omega) _) (by omega) _
    go_wp2_with fail
    (try simp only [Exit.inBlock, Exit.then])
    refine bodyPost_ret (v := .tuple #[.agg (cellsOf k0).toArray, .agg (cellsOf k1).toArray]) ?_ rfl ?_
    · exact results_rr rfl _ _ (w.heap.size + 1 + 1) (w.heap.size + 1 + 1 + 1) 25 25 (cellsOf k0).toArray (cellsOf k1).toArray (0, 0) (0, 0) _ rfl rfl f0.out f1.out rfl rfl (by rw [S0]; rfl) (by rw [S1]; rfl)
    · exact ⟨rfl, f2.out⟩
end Go.Proofs.YtdiigbknfjceoaaDoor
