import Derived.Test.YtfhafednnnfmbaaDoorPkC
import Derived.Test.YtfhafednnnfmbaaDoorPkB
import Derived.Test.YtfhafednnnfmbaaDoorRof
import Derived.Test.YtfhafednnnfmbaaDoorRbegin
import Derived.Test.YtfhafednnnfmbaaDoorP9
/-
  The law's awake (layer 9): two come to one key.
-/
namespace Go.Proofs.YtfhafednnnfmbaaDoor
open Go.ChangeShapes Go.WideShapes Go.ChangeAt Go.RowKit Go.Deep
set_option maxRecDepth 100000

set_option maxHeartbeats 8000000 in
theorem awake9_calls {w : World} {tg tp : TypeId × Nat × Nat} (hG : Gl w tg) (hP : Gp w tp) :
    Calls Tryd.prog 7 #[] w fun e w' => e = .returned (.bool true) ∧ Ext w w' := by
  have hcv := conv_const
  have OW := Lib.hid (fun (W : World) => own_calls (w := W) (s := 1) (o := true))
  have PA := Lib.hid (pair1_calls 97 (.int .u8 97) rfl)
  have PF := Lib.hid (pair1_calls 102 (.int .u8 102) rfl)
  have BU := Lib.hid (fun (W : World) => bundleP (w := W) [1, 1] [1, 2] [1, 3] true)
  have BE := Lib.hid (fun (W : World) (e : Ext w W) => beginP [1, 1] [1, 2] [1, 3] [97] [102] true (hG.ext e) (hP.ext e))
  have AN := Lib.hid (fun (W : World) (e : Ext w W) => answerP [1, 1] [1, 2] [1, 3] [97] [102] true (hG.ext e) (hP.ext e))
  rw [aw9_whole] at BE AN
  rw [show bbC (ownL 1) true = ownP [1, 1] [1, 2] [1, 3] true from rfl] at OW
  have L_oo := ownP_len [1, 1] [1, 2] [1, 3] true
  have O_oo := Lib.hid (ownP_one [1, 1] [1, 2] [1, 3] true)
  have L_bu := bunP_len [1, 1] [1, 2] [1, 3] true
  have O_bu := Lib.hid (bunP_one [1, 1] [1, 2] [1, 3] true)
  have BB : Hid ((bunP [1, 1] [1, 2] [1, 3] true)[96]? = some (.bool true)) := by
    unfold Hid bunP bbC
    rw [List.getElem?_append_right (by rw [cellsOf_len, bunL_len (pubL_len _) (pubL_len _) (pubL_len _)]; omega), cellsOf_len, bunL_len (pubL_len _) (pubL_len _) (pubL_len _)]
    rfl
  have hne : Hid ((!decide (agV (ksL [1, 1] [1, 2] [1, 3] [97] [102] true) = List.replicate 32 0)) = true) := by unfold Hid; rw [aw9_key]; rfl
  have L_kv := agV_len (ksL [1, 1] [1, 2] [1, 3] [97] [102] true)
  have L_pa := pairL_len [97]
  have L_pf := pairL_len [102]
  have L_ua := pubL_len [97]
  have L_uf := pubL_len [102]
  have UA : Hid (∀ (W : World) (g : Nat), Kp W g (pairL [97]) → ∀ j v, (cellsOf (pubL [97]))[j]? = some v → W.cell? ⟨g, 32 + j, none⟩ = some v) := fun W g h => kp_pub h
  have UF : Hid (∀ (W : World) (g : Nat), Kp W g (pairL [102]) → ∀ j v, (cellsOf (pubL [102]))[j]? = some v → W.cell? ⟨g, 32 + j, none⟩ = some v) := fun W g h => kp_pub h
  clear hG hP
  generalize agV (ksL [1, 1] [1, 2] [1, 3] [97] [102] true) = kv at *
  generalize ownP [1, 1] [1, 2] [1, 3] true = oo at *
  generalize bunP [1, 1] [1, 2] [1, 3] true = bu at *
  generalize pairL [97] = pa at *
  generalize pairL [102] = pf at *
  generalize pubL [97] = ua at *
  generalize pubL [102] = uf at *
  have C_ua : (cellsOf ua).length = 32 := by rw [cellsOf_len, L_ua]
  have C_uf : (cellsOf uf).length = 32 := by rw [cellsOf_len, L_uf]
  have S_kv : (cellsOf kv).toArray.size = 32 := by simp [cellsOf_len, L_kv]
  have O_kv := cellsOf_one kv
  have S_ua : (cellsOf ua).toArray.size = 32 := by simp [cellsOf_len, L_ua]
  have O_ua := cellsOf_one ua
  have S_uf : (cellsOf uf).toArray.size = 32 := by simp [cellsOf_len, L_uf]
  have O_uf := cellsOf_one uf
  have S_pa : (cellsOf pa).toArray.size = 64 := by simp [cellsOf_len, L_pa]
  have O_pa := cellsOf_one pa
  have S_pf : (cellsOf pf).toArray.size = 64 := by simp [cellsOf_len, L_pf]
  have O_pf := cellsOf_one pf
  have S_oo : oo.toArray.size = 193 := by rw [List.size_toArray, L_oo]
  have S_bu : bu.toArray.size = 97 := by rw [List.size_toArray, L_bu]
  have hal : ∀ w, (zeroValue 23).run Tryd.prog w = .ok (.agg (cellsOf (List.replicate 32 0)).toArray) w := fun w => by rw [zeros32_cells]; exact key_alloc w
  have hal2 := apair_alloc
  have hal3 := own_alloc
  have hal4 := bundle_alloc
  have hbz := Lib.hid zero_built
  have L_zk : (List.replicate 32 (0 : UInt8)).length = 32 := rfl
  have L_zp : (List.replicate 64 (0 : UInt8)).length = 64 := by simp
  have L_zo : (bbC (List.replicate 192 0) false).length = 193 := by rw [bbC_len]; simp
  have L_zb : (bbC (List.replicate 96 0) false).length = 97 := by rw [bbC_len]; simp
  generalize bbC (List.replicate 192 0) false = zo at *
  generalize bbC (List.replicate 96 0) false = zb at *
  generalize List.replicate 32 (0 : UInt8) = zk at *
  generalize List.replicate 64 (0 : UInt8) = zp at *
  have S_zk : (cellsOf zk).toArray.size = 32 := by simp [cellsOf_len, L_zk]
  have O_zk := cellsOf_one zk
  have S_zp : (cellsOf zp).toArray.size = 64 := by simp [cellsOf_len, L_zp]
  have O_zp := cellsOf_one zp
  have S_zo : zo.toArray.size = 193 := by rw [List.size_toArray, L_zo]
  have S_zb : zb.toArray.size = 97 := by rw [List.size_toArray, L_zb]
  have Q0 : Hid (∀ s, Ext w s → Ext w s) := fun s e => e
  go_enter Tryd.func7, Tryd.ntmps7
  go_wp2_with fail
  refine (OW.out _).mono ?_
  rintro e u_ ⟨rfl, e1⟩
  have a1 : Hid ((u_.alloc (Obj.cells zo.toArray 34)).heap[u_.heap.size]? = some (.cells zo.toArray 34 (0, 0))) := heap_alloc_new _ _
  have E_ : Ext w ((u_.alloc (Obj.cells zo.toArray 34)).setRow u_.heap.size oo.toArray) := e1.trans (below_setRow ((Ext.refl u_).alloc _) (Nat.le_refl _) _)
  go_upto_region 2 with (refine wpList_store_row rfl 34 _ _ rfl u_.heap.size oo.toArray rfl rfl 34 _ a1.out (by rw [S_oo]; rfl) (by rw [S_oo, S_zo]) O_oo.out ?_; simp only [Act.put])
  obtain ⟨go, hg_⟩ : ∃ g, g = u_.heap.size := ⟨_, rfl⟩
  refine wp_gen (fun W => Cb W go 34 oo ∧ Ext w W) ⟨by rw [hg_]; exact setRow_heap _ _ _ _ _ _ a1.out, Q0.out _ E_⟩ ?_
  rw [← hg_]
  clear hg_ a1 E_ e1 Q0
  rintro w1 ⟨q_o, q_x⟩
  have Q1 : Hid (∀ s, Ext w1 s → Cb s go 34 oo ∧ Ext w s) := fun s e => ⟨q_o.ext e, q_x.trans e⟩
  clear q_o q_x
  go_wp2_with fail
  refine (PA.out _ _).mono ?_
  rintro e u_ ⟨rfl, e1⟩
  have a1 : Hid ((u_.alloc (Obj.cells (cellsOf zp).toArray 25)).heap[u_.heap.size]? = some (.cells (cellsOf zp).toArray 25 (0, 0))) := heap_alloc_new _ _
  have E_ : Ext w1 ((u_.alloc (Obj.cells (cellsOf zp).toArray 25)).setRow u_.heap.size (cellsOf pa).toArray) := e1.trans (below_setRow ((Ext.refl u_).alloc _) (Nat.le_refl _) _)
  go_upto_region 3 with (refine wpList_store_row rfl 25 _ _ rfl u_.heap.size (cellsOf pa).toArray rfl rfl 25 _ a1.out (by rw [S_pa]; rfl) (by rw [S_pa, S_zp]) O_pa ?_; simp only [Act.put])
  obtain ⟨ga, hg_⟩ : ∃ g, g = u_.heap.size := ⟨_, rfl⟩
  refine wp_gen (fun W => Kp W ga pa ∧ Cb W go 34 oo ∧ Ext w W) ⟨⟨by rw [hg_]; exact setRow_heap _ _ _ _ _ _ a1.out, L_pa⟩, Q1.out _ E_⟩ ?_
  rw [← hg_]
  clear hg_ a1 E_ e1 Q1
  rintro w2 ⟨q_a, q_o, q_x⟩
  have Q2 : Hid (∀ s, Ext w2 s → Kp s ga pa ∧ Cb s go 34 oo ∧ Ext w s) := fun s e => ⟨q_a.ext e, q_o.ext e, q_x.trans e⟩
  clear q_a q_o q_x
  go_wp2_with fail
  refine (PF.out _ _).mono ?_
  rintro e u_ ⟨rfl, e1⟩
  have a1 : Hid ((u_.alloc (Obj.cells (cellsOf zp).toArray 25)).heap[u_.heap.size]? = some (.cells (cellsOf zp).toArray 25 (0, 0))) := heap_alloc_new _ _
  have E_ : Ext w2 ((u_.alloc (Obj.cells (cellsOf zp).toArray 25)).setRow u_.heap.size (cellsOf pf).toArray) := e1.trans (below_setRow ((Ext.refl u_).alloc _) (Nat.le_refl _) _)
  go_upto_region 4 with (refine wpList_store_row rfl 25 _ _ rfl u_.heap.size (cellsOf pf).toArray rfl rfl 25 _ a1.out (by rw [S_pf]; rfl) (by rw [S_pf, S_zp]) O_pf ?_; simp only [Act.put])
  obtain ⟨gf, hg_⟩ : ∃ g, g = u_.heap.size := ⟨_, rfl⟩
  refine wp_gen (fun W => Kp W gf pf ∧ Kp W ga pa ∧ Cb W go 34 oo ∧ Ext w W) ⟨⟨by rw [hg_]; exact setRow_heap _ _ _ _ _ _ a1.out, L_pf⟩, Q2.out _ E_⟩ ?_
  rw [← hg_]
  clear hg_ a1 E_ e1 Q2
  rintro w3 ⟨q_f, q_a, q_o, q_x⟩
  have Q3 : Hid (∀ s, Ext w3 s → Kp s gf pf ∧ Kp s ga pa ∧ Cb s go 34 oo ∧ Ext w s) := fun s e => ⟨q_f.ext e, q_a.ext e, q_o.ext e, q_x.trans e⟩
  clear q_f q_a q_o q_x
  go_upto_region 4 with fail
  apply wp_partE (F := fun g W => Ky W g kv ∧ Ext w3 W)
  · skip
    refine wp_region_tree (R := Below w3.heap.size) (Below.refl _) (fun _ _ _ => Below.trans) (.rd 0 (.rd 1 (.rd 2 (.alt 3 (.alt 4 (.rd 5 (.rd 6 (.rd 7 (.alt 8 (.alt 9 (.rd 10 .nil) .stop) .stop)))) (.alt 8 (.alt 4 (.rd 5 (.rd 6 (.rd 7 (.alt 9 (.rd 10 .nil) .stop)))) .stop) .stop)) (.alt 8 (.alt 3 (.alt 4 (.rd 5 (.rd 6 (.rd 7 (.alt 9 (.rd 10 .nil) .stop)))) .stop) .stop) .stop))))) [(0, 18, 8), (0, 19, 16), (0, 20, 4), (4, 21, 1048576), (11, 22, 2883584), (16, 17, 4194304), (32, 23, 131072), (32, 24, 131072), (0, 5, 0), (383, 0, 8388640), (1023, 6, 16777216)] 11 (by kernel_rfl) (by kernel_rfl) (by kernel_rfl) rfl (by kernel_rfl) (by kernel_rfl) (fun _ _ _ _ _ h => absurd h.1 (fun q => by cases q)) ?_
    repeat (first | (refine seqT_read (fun _ => True) (fun _ _ => trivial) _ (v := ?_) rfl ?_ ?_ ?_; rotate_left; (· rfl); (· intro w' hF; go_simp; (try with_reducible rfl)); simp only [Act.put, List.setIfInBounds_toArray, List.set_cons_zero, List.set_cons_succ]) | (refine seqT_skip _ rfl ?_ ?_; (· rfl); simp only [Act.put, List.setIfInBounds_toArray, List.set_cons_zero, List.set_cons_succ]))
    refine seqT_read (fun s' => s'.heap[ga]? = some (.cells (cellsOf pa).toArray 25 (0, 0))) (fun s' e => ((Q3.out s' (show Ext w3 s' from (Below.refl w3.heap.size w3).drew.trans e)).2.1).1) _ (v := .agg (cellsOf pa).toArray) rfl (by rfl) (fun s' hs' => exec_load_row rfl rfl hs' rfl rfl (by rw [S_pa]; rfl)) ?_
    simp only [Act.put, List.setIfInBounds_toArray, List.set_cons_zero, List.set_cons_succ]
    repeat (first | (refine seqT_read (fun _ => True) (fun _ _ => trivial) _ (v := ?_) rfl ?_ ?_ ?_; rotate_left; (· rfl); (· intro w' hF; go_simp; (try with_reducible rfl)); simp only [Act.put, List.setIfInBounds_toArray, List.set_cons_zero, List.set_cons_succ]) | (refine seqT_skip _ rfl ?_ ?_; (· rfl); simp only [Act.put, List.setIfInBounds_toArray, List.set_cons_zero, List.set_cons_succ]))
    refine seqT_read (fun s' => s'.heap[gf]? = some (.cells (cellsOf pf).toArray 25 (0, 0))) (fun s' e => ((Q3.out s' (show Ext w3 s' from (Below.refl w3.heap.size w3).drew.trans e)).1).1) _ (v := .agg (cellsOf pf).toArray) rfl (by rfl) (fun s' hs' => exec_load_row rfl rfl hs' rfl rfl (by rw [S_pf]; rfl)) ?_
    simp only [Act.put, List.setIfInBounds_toArray, List.set_cons_zero, List.set_cons_succ]
    repeat (first | (refine seqT_read (fun _ => True) (fun _ _ => trivial) _ (v := ?_) rfl ?_ ?_ ?_; rotate_left; (· rfl); (· intro w' hF; go_simp; (try with_reducible rfl)); simp only [Act.put, List.setIfInBounds_toArray, List.set_cons_zero, List.set_cons_succ]) | (refine seqT_skip _ rfl ?_ ?_; (· rfl); simp only [Act.put, List.setIfInBounds_toArray, List.set_cons_zero, List.set_cons_succ]))
    refine seqT_read (fun s' => s'.heap[go]? = some (.cells oo.toArray 34 (0, 0))) (fun s' e => ((Q3.out s' (show Ext w3 s' from (Below.refl w3.heap.size w3).drew.trans e)).2.2.1)) _ (v := .agg oo.toArray) rfl (by rfl) (fun s' hs' => exec_load_row rfl rfl hs' rfl rfl (by rw [S_oo]; rfl)) ?_
    simp only [Act.put, List.setIfInBounds_toArray, List.set_cons_zero, List.set_cons_succ]
    repeat (first | (refine seqT_read (fun _ => True) (fun _ _ => trivial) _ (v := ?_) rfl ?_ ?_ ?_; rotate_left; (· rfl); (· intro w' hF; go_simp; (try with_reducible rfl)); simp only [Act.put, List.setIfInBounds_toArray, List.set_cons_zero, List.set_cons_succ]) | (refine seqT_skip _ rfl ?_ ?_; (· rfl); simp only [Act.put, List.setIfInBounds_toArray, List.set_cons_zero, List.set_cons_succ]))
    have X : Hid (Ext w3 w3.drew) := (Ext.refl w3).drew
    have z0 : w3.heap.size ≤ w3.drew.heap.size := Nat.le_refl _
    generalize w3.drew = WC at *
    repeat' (first
      | exact seqT_stop
      | (refine seqT_do (i := 3) _ rfl ?_ ?_ (fun K1 hK1 => ?_)
         (· rfl)
         rotate_left
         go_simp
         refine (BU.out _).mono ?_
         rintro e0 WC ⟨rfl, e⟩
         refine hK1.out _ _ (e.mono z0) ?_
         clear hK1 K1
         (try replace hA := Lib.hid ((e.block _ (heap_lt hA.out)).trans hA.out))
         replace X := Lib.hid (X.out.trans e)
         have z1 := Nat.le_trans z0 e.size
         clear z0 e
         have z0 := z1
         clear z1
         (try simp only [Act.put, List.setIfInBounds_toArray, List.set_cons_zero, List.set_cons_succ])
         repeat (first | (refine seqT_read (fun _ => True) (fun _ _ => trivial) _ (v := ?_) rfl ?_ ?_ ?_; rotate_left; (· rfl); (· intro w' hF; go_simp; (try with_reducible rfl)); simp only [Act.put, List.setIfInBounds_toArray, List.set_cons_zero, List.set_cons_succ]) | (refine seqT_skip _ rfl ?_ ?_; (· rfl); simp only [Act.put, List.setIfInBounds_toArray, List.set_cons_zero, List.set_cons_succ]))
         skip)
      | (refine seqT_do (i := 4) _ rfl ?_ ?_ (fun K1 hK1 => ?_)
         (· rfl)
         rotate_left
         go_simp
         refine (BE.out _ (((Q3.out _ (Ext.refl _)).2.2.2).trans X.out)).mono ?_
         rintro e0 WC ⟨rfl, e⟩
         refine hK1.out _ _ (e.mono z0) ?_
         clear hK1 K1
         (try replace hA := Lib.hid ((e.block _ (heap_lt hA.out)).trans hA.out))
         replace X := Lib.hid (X.out.trans e)
         have z1 := Nat.le_trans z0 e.size
         clear z0 e
         have z0 := z1
         clear z1
         (try simp only [Act.put, List.setIfInBounds_toArray, List.set_cons_zero, List.set_cons_succ])
         repeat (first | (refine seqT_read (fun _ => True) (fun _ _ => trivial) _ (v := ?_) rfl ?_ ?_ ?_; rotate_left; (· rfl); (· intro w' hF; go_simp; (try with_reducible rfl)); simp only [Act.put, List.setIfInBounds_toArray, List.set_cons_zero, List.set_cons_succ]) | (refine seqT_skip _ rfl ?_ ?_; (· rfl); simp only [Act.put, List.setIfInBounds_toArray, List.set_cons_zero, List.set_cons_succ]))
         skip)
      | (refine seqT_do (i := 8) _ rfl ?_ ?_ (fun K1 hK1 => ?_)
         (· rfl)
         rotate_left
         go_simp
         have e : Ext WC (WC.alloc (Obj.cells (cellsOf zk).toArray 23)) := (Ext.refl WC).alloc _
         obtain ⟨g6, hg6⟩ : ∃ g, g = WC.heap.size := ⟨_, rfl⟩
         have hA' := Lib.hid (heap_alloc_new WC (Obj.cells (cellsOf zk).toArray 23))
         rw [← hg6] at hA' ⊢
         have lg6 : w3.heap.size ≤ g6 := by rw [hg6]; exact z0
         refine hK1.out _ (WC.alloc (Obj.cells (cellsOf zk).toArray 23)) (e.mono z0) ?_
         clear hK1 K1
         replace X := Lib.hid (X.out.trans e)
         have z1 := Nat.le_trans z0 e.size
         clear z0 e
         have z0 := z1
         clear z1
         have hA := hA'
         clear hA'
         replace hg6 := Lib.hid hg6
         generalize WC.alloc (Obj.cells (cellsOf zk).toArray 23) = WC at *
         (try simp only [Act.put, List.setIfInBounds_toArray, List.set_cons_zero, List.set_cons_succ])
         repeat (first | (refine seqT_read (fun _ => True) (fun _ _ => trivial) _ (v := ?_) rfl ?_ ?_ ?_; rotate_left; (· rfl); (· intro w' hF; go_simp; (try with_reducible rfl)); simp only [Act.put, List.setIfInBounds_toArray, List.set_cons_zero, List.set_cons_succ]) | (refine seqT_skip _ rfl ?_ ?_; (· rfl); simp only [Act.put, List.setIfInBounds_toArray, List.set_cons_zero, List.set_cons_succ]))
         skip)
      | (refine seqT_do (i := 9) _ rfl ?_ ?_ (fun K1 hK1 => ?_)
         (· rfl)
         rotate_left
         refine wp_store_row _ _ _ rfl g6 (cellsOf kv).toArray rfl rfl 23 (cellsOf zk).toArray hA.out (by rw [S_kv]; rfl) (by rw [S_kv, S_zk]) O_kv ?_
         refine hK1.out _ _ (below_setRow (Below.refl _ _) lg6 _) ?_
         clear hK1 K1
         (try simp only [Act.put, List.setIfInBounds_toArray, List.set_cons_zero, List.set_cons_succ])
         repeat (first | (refine seqT_read (fun _ => True) (fun _ _ => trivial) _ (v := ?_) rfl ?_ ?_ ?_; rotate_left; (· rfl); (· intro w' hF; go_simp; (try with_reducible rfl)); simp only [Act.put, List.setIfInBounds_toArray, List.set_cons_zero, List.set_cons_succ]) | (refine seqT_skip _ rfl ?_ ?_; (· rfl); simp only [Act.put, List.setIfInBounds_toArray, List.set_cons_zero, List.set_cons_succ]))
         refine seqT_done ?_
         exact ⟨rfl, g6, rfl, ⟨setRow_heap _ _ _ _ _ _ hA.out, L_kv⟩, below_setRow X.out lg6 _⟩))
  intro W6 gk ⟨kg, xe⟩
  (try dsimp only)
  have qq_ : Ky W6 gk kv ∧ Kp W6 gf pf ∧ Kp W6 ga pa ∧ Cb W6 go 34 oo ∧ Ext w W6 := ⟨kg, Q3.out _ xe⟩
  clear kg xe Q3
  generalize W6 = w4 at *
  obtain ⟨q_k, q_f, q_a, q_o, q_x⟩ := qq_
  have Q4 : Hid (∀ s, Ext w4 s → Ky s gk kv ∧ Kp s gf pf ∧ Kp s ga pa ∧ Cb s go 34 oo ∧ Ext w s) := fun s e => ⟨q_k.ext e, q_f.ext e, q_a.ext e, q_o.ext e, q_x.trans e⟩
  clear q_k q_f q_a q_o q_x
  go_wp2_with (first
    | (refine wpList_load_row rfl 34 _ rfl go rfl 34 oo.toArray (0, 0) _ ((Q4.out _ (Ext.refl _)).2.2.2.1) rfl rfl (by rw [S_oo]; rfl) ?_; simp only [Act.put, List.setIfInBounds_toArray, List.set_cons_zero, List.set_cons_succ])
    | (refine wpList_load_mid rfl (g := ga) (off := 32) (ys := cellsOf ua) rfl rfl (UA.out _ _ ((Q4.out _ (Ext.refl _)).2.2.1)) rfl rfl (by rw [C_ua]; rfl) ?_; simp only [Act.put, List.setIfInBounds_toArray, List.set_cons_zero, List.set_cons_succ])
    | (refine wpList_load_mid rfl (g := gf) (off := 32) (ys := cellsOf uf) rfl rfl (UF.out _ _ ((Q4.out _ (Ext.refl _)).2.1)) rfl rfl (by rw [C_uf]; rfl) ?_; simp only [Act.put, List.setIfInBounds_toArray, List.set_cons_zero, List.set_cons_succ]))
  refine (AN.out _ ((Q4.out _ (Ext.refl _)).2.2.2.2)).mono ?_
  rintro e u_ ⟨rfl, e1⟩
  have a1 : Hid ((u_.alloc (Obj.cells (cellsOf zk).toArray 23)).heap[u_.heap.size]? = some (.cells (cellsOf zk).toArray 23 (0, 0))) := heap_alloc_new _ _
  have E_ : Ext w4 ((u_.alloc (Obj.cells (cellsOf zk).toArray 23)).setRow u_.heap.size (cellsOf kv).toArray) := e1.trans (below_setRow ((Ext.refl u_).alloc _) (Nat.le_refl _) _)
  go_upto_region 6 with (refine wpList_store_row rfl 23 _ _ rfl u_.heap.size (cellsOf kv).toArray rfl rfl 23 _ a1.out (by rw [S_kv]; rfl) (by rw [S_kv, S_zk]) O_kv ?_; simp only [Act.put])
  obtain ⟨gm, hg_⟩ : ∃ g, g = u_.heap.size := ⟨_, rfl⟩
  refine wp_gen (fun W => Ky W gm kv ∧ Ky W gk kv ∧ Kp W gf pf ∧ Kp W ga pa ∧ Cb W go 34 oo ∧ Ext w W) ⟨⟨by rw [hg_]; exact setRow_heap _ _ _ _ _ _ a1.out, L_kv⟩, Q4.out _ E_⟩ ?_
  rw [← hg_]
  clear hg_ a1 E_ e1 Q4
  rintro w5 ⟨q_m, q_k, q_f, q_a, q_o, q_x⟩
  have Q5 : Hid (∀ s, Ext w5 s → Ky s gm kv ∧ Ky s gk kv ∧ Kp s gf pf ∧ Kp s ga pa ∧ Cb s go 34 oo ∧ Ext w s) := fun s e => ⟨q_m.ext e, q_k.ext e, q_f.ext e, q_a.ext e, q_o.ext e, q_x.trans e⟩
  clear q_m q_k q_f q_a q_o q_x
  go_wp2_with (refine wpList_load_row rfl 34 _ rfl go rfl 34 oo.toArray (0, 0) _ ((Q5.out _ (Ext.refl _)).2.2.2.2.1) rfl rfl (by rw [S_oo]; rfl) ?_; simp only [Act.put, List.setIfInBounds_toArray, List.set_cons_zero, List.set_cons_succ])
  refine (BU.out _).mono ?_
  rintro e u_ ⟨rfl, e1⟩
  have a1 : Hid ((u_.alloc (Obj.cells zb.toArray 27)).heap[u_.heap.size]? = some (.cells zb.toArray 27 (0, 0))) := heap_alloc_new _ _
  have E_ : Ext w5 ((u_.alloc (Obj.cells zb.toArray 27)).setRow u_.heap.size bu.toArray) := e1.trans (below_setRow ((Ext.refl u_).alloc _) (Nat.le_refl _) _)
  go_upto_region 7 with (refine wpList_store_row rfl 27 _ _ rfl u_.heap.size bu.toArray rfl rfl 27 _ a1.out (by rw [S_bu]; rfl) (by rw [S_bu, S_zb]) O_bu.out ?_; simp only [Act.put])
  obtain ⟨gb, hg_⟩ : ∃ g, g = u_.heap.size := ⟨_, rfl⟩
  refine wp_gen (fun W => Cb W gb 27 bu ∧ Ky W gm kv ∧ Ky W gk kv ∧ Kp W gf pf ∧ Kp W ga pa ∧ Cb W go 34 oo ∧ Ext w W) ⟨by rw [hg_]; exact setRow_heap _ _ _ _ _ _ a1.out, Q5.out _ E_⟩ ?_
  rw [← hg_]
  clear hg_ a1 E_ e1 Q5
  rintro w6 ⟨q_b, q_m, q_k, q_f, q_a, q_o, q_x⟩
  have Q6 : Hid (∀ s, Ext w6 s → Cb s gb 27 bu ∧ Ky s gm kv ∧ Ky s gk kv ∧ Kp s gf pf ∧ Kp s ga pa ∧ Cb s go 34 oo ∧ Ext w s) := fun s e => ⟨q_b.ext e, q_m.ext e, q_k.ext e, q_f.ext e, q_a.ext e, q_o.ext e, q_x.trans e⟩
  clear q_b q_m q_k q_f q_a q_o q_x
  have bc := ((Q6.out _ (Ext.refl _)).1).cell BB.out
  have heq : Hid (decide (kv = kv) = true) := decide_eq_true rfl
  go_wp2_with (first
    | (refine wpList_load_rowW rfl 23 _ rfl gk rfl 23 (cellsOf kv).toArray (0, 0) _ ((Q6.out _ (Ext.refl _)).2.2.1).1 rfl rfl (by rw [S_kv]; rfl) ?_; simp only [Act.put, List.setIfInBounds_toArray, List.set_cons_zero, List.set_cons_succ])
    | (refine wpList_load_rowW rfl 23 _ rfl gm rfl 23 (cellsOf kv).toArray (0, 0) _ ((Q6.out _ (Ext.refl _)).2.1).1 rfl rfl (by rw [S_kv]; rfl) ?_; simp only [Act.put, List.setIfInBounds_toArray, List.set_cons_zero, List.set_cons_succ])
    | (refine wpList_build_as rfl _ _ rfl (cellsOf zk).toArray (by simp only [List.map_toArray, List.map_nil]; exact hbz.out) ?_; simp only [Act.put, List.setIfInBounds_toArray, List.set_cons_zero, List.set_cons_succ])
    | (refine wpList_eql_keyB rfl _ _ _ rfl kv kv true heq.out rfl rfl L_kv L_kv ?_; simp only [Act.put, List.setIfInBounds_toArray, List.set_cons_zero, List.set_cons_succ])
    | (refine wpList_neq_keyB rfl _ _ _ rfl kv zk true hne.out rfl rfl L_kv L_zk ?_; simp only [Act.put, List.setIfInBounds_toArray, List.set_cons_zero, List.set_cons_succ]))
  go_ret
  exact ⟨rfl, ((Q6.out _ (Ext.refl _)).2.2.2.2.2.2)⟩
end Go.Proofs.YtfhafednnnfmbaaDoor
