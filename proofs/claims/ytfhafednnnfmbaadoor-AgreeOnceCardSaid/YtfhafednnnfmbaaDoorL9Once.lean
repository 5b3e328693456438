import Derived.Test.YtfhafednnnfmbaaDoorPkC
import Derived.Test.YtfhafednnnfmbaaDoorPkB
import Derived.Test.YtfhafednnnfmbaaDoorRof
import Derived.Test.YtfhafednnnfmbaaDoorRbegin
import Derived.Test.YtfhafednnnfmbaaDoorAwake9
/-
  AgreeOnce: without a key for once.
-/
namespace Go.Proofs.YtfhafednnnfmbaaDoor
open Go.ChangeShapes Go.WideShapes Go.ChangeAt Go.RowKit Go.Deep
set_option maxRecDepth 100000

theorem bun_parts (x y z : List UInt8) (h : Bool) : bunP x y z h = cellsOf (pubL x) ++ (cellsOf (pubL y) ++ (cellsOf (if h then pubL z else List.replicate 32 0) ++ [.bool h])) := by
  unfold bunP bunL bbC
  rw [cellsOf_app, cellsOf_app]
  simp
theorem own_parts (x y z : List UInt8) (h : Bool) : ownP x y z h = (cellsOf (pairL x) ++ cellsOf (pairL y)) ++ (cellsOf (pairL z) ++ [.bool h]) := by
  unfold ownP bbC
  rw [cellsOf_app, cellsOf_app]
  simp
theorem ks_false (x y z u a f : List UInt8) : ksL x y z a f false = ksL x y u a f false := by simp [ksL]
set_option maxHeartbeats 8000000 in
theorem agreeOnce_calls {w : World} {sd : List UInt8} {p q r : UInt8} (h0 : (cellsOf sd)[0]? = some (.int .u8 (p.toNat : Int))) (h1 : (cellsOf sd)[1]? = some (.int .u8 (q.toNat : Int))) (h2 : (cellsOf sd)[2]? = some (.int .u8 (r.toNat : Int))) {tg tp : TypeId × Nat × Nat} (hG : Gl w tg) (hP : Gp w tp) :
    Calls Tryd.prog 6 #[.agg (cellsOf sd).toArray] w fun e w' => e = .returned (.bool true) ∧ Ext w w' := by
  have AW := Lib.hid (fun (W : World) (e : Ext w W) => awake9_calls (hG.ext e) (hP.ext e))
  have OW := Lib.hid (fun (W : World) => own_calls (w := W) (s := p) (o := true))
  have OV := Lib.hid (fun (W : World) => own_calls (w := W) (s := p) (o := false))
  have PA := Lib.hid (pair2_calls q 4 (.int .u8 (q.toNat : Int)) (.int .u8 4) rfl rfl)
  have PF := Lib.hid (pair2_calls r 5 (.int .u8 (r.toNat : Int)) (.int .u8 5) rfl rfl)
  have BU := Lib.hid (fun (W : World) => bundleP (w := W) [p, 1] [p, 2] [p, 3] true)
  have BV := Lib.hid (fun (W : World) => bundleP (w := W) [p, 1] [p, 2] [p, 3] false)
  have BE := Lib.hid (fun (W : World) (e : Ext w W) => beginP [p, 1] [p, 2] [p, 3] [q, 4] [r, 5] false (hG.ext e) (hP.ext e))
  have AN := Lib.hid (fun (W : World) (e : Ext w W) => answerP [p, 1] [p, 2] [p, 3] [q, 4] [r, 5] false (hG.ext e) (hP.ext e))
  have AO := Lib.hid (fun (W : World) (e : Ext w W) => answerP [p, 1] [p, 2] [q, 4] [q, 4] [r, 5] false (hG.ext e) (hP.ext e))
  rw [ks_false [p, 1] [p, 2] [q, 4] [p, 3]] at AO
  rw [show bbC (ownL p) true = ownP [p, 1] [p, 2] [p, 3] true from rfl] at OW
  rw [show bbC (ownL p) false = ownP [p, 1] [p, 2] [p, 3] false from rfl] at OV
  have L_oo := ownP_len [p, 1] [p, 2] [p, 3] true
  have O_oo := Lib.hid (ownP_one [p, 1] [p, 2] [p, 3] true)
  have L_ov := ownP_len [p, 1] [p, 2] [p, 3] false
  have O_ov := Lib.hid (ownP_one [p, 1] [p, 2] [p, 3] false)
  have L_or := ownP_len [p, 1] [p, 2] [q, 4] false
  have L_bu := bunP_len [p, 1] [p, 2] [p, 3] true
  have O_bu := Lib.hid (bunP_one [p, 1] [p, 2] [p, 3] true)
  have L_bv := bunP_len [p, 1] [p, 2] [p, 3] false
  have O_bv := Lib.hid (bunP_one [p, 1] [p, 2] [p, 3] false)
  have BUe := Lib.hid (fun _ : Unit => bun_parts [p, 1] [p, 2] [p, 3] true)
  have BVe := Lib.hid (fun _ : Unit => bun_parts [p, 1] [p, 2] [p, 3] false)
  have OOe : Hid (∀ _ : Unit, ownP [p, 1] [p, 2] [p, 3] true = (cellsOf (pairL [p, 1]) ++ (cellsOf (pairL [p, 2]) ++ cellsOf (macL [] [p, 3]))) ++ (cellsOf (pubL [p, 3]) ++ [.bool true])) := fun _ => by
    rw [own_parts, pairL_eq [p, 3], cellsOf_app]
    simp
  have OVe := Lib.hid (fun _ : Unit => own_parts [p, 1] [p, 2] [p, 3] false)
  have ORe := Lib.hid (fun _ : Unit => own_parts [p, 1] [p, 2] [q, 4] false)
  rw [if_pos rfl] at BUe
  rw [if_neg (by decide)] at BVe
  have L_kv := agV_len (ksL [p, 1] [p, 2] [p, 3] [q, 4] [r, 5] false)
  have L_pa := pairL_len [q, 4]
  have L_pf := pairL_len [r, 5]
  have L_ua := pubL_len [q, 4]
  have L_uf := pubL_len [r, 5]
  have L_u1 := pubL_len [p, 1]
  have L_u2 := pubL_len [p, 2]
  have L_u3 := pubL_len [p, 3]
  have K_1 := pairL_len [p, 1]
  have K_2 := pairL_len [p, 2]
  have K_3 := pairL_len [p, 3]
  have K_m := macL_len [] [p, 3]
  have UA : Hid (∀ (W : World) (g : Nat), Kp W g (pairL [q, 4]) → ∀ j v, (cellsOf (pubL [q, 4]))[j]? = some v → W.cell? ⟨g, 32 + j, none⟩ = some v) := fun W g h => kp_pub h
  have UF : Hid (∀ (W : World) (g : Nat), Kp W g (pairL [r, 5]) → ∀ j v, (cellsOf (pubL [r, 5]))[j]? = some v → W.cell? ⟨g, 32 + j, none⟩ = some v) := fun W g h => kp_pub h
  clear hG hP
  generalize agV (ksL [p, 1] [p, 2] [p, 3] [q, 4] [r, 5] false) = kv at *
  generalize agE (ksL [p, 1] [p, 2] [p, 3] [q, 4] [r, 5] false) = ce at *
  generalize ownP [p, 1] [p, 2] [p, 3] true = oo at *
  generalize ownP [p, 1] [p, 2] [p, 3] false = ov at *
  generalize ownP [p, 1] [p, 2] [q, 4] false = or at *
  generalize bunP [p, 1] [p, 2] [p, 3] true = bu at *
  generalize bunP [p, 1] [p, 2] [p, 3] false = bv at *
  generalize pairL [q, 4] = pa at *
  generalize pairL [r, 5] = pf at *
  generalize pairL [p, 1] = p1 at *
  generalize pairL [p, 2] = p2 at *
  generalize pairL [p, 3] = p3 at *
  generalize macL [] [p, 3] = m3 at *
  generalize pubL [q, 4] = ua at *
  generalize pubL [r, 5] = uf at *
  generalize pubL [p, 1] = u1 at *
  generalize pubL [p, 2] = u2 at *
  generalize pubL [p, 3] = u3 at *
  have C_ua : (cellsOf ua).length = 32 := by rw [cellsOf_len, L_ua]
  have C_uf : (cellsOf uf).length = 32 := by rw [cellsOf_len, L_uf]
  have C_u1 : (cellsOf u1).length = 32 := by rw [cellsOf_len, L_u1]
  have C_u2 : (cellsOf u2).length = 32 := by rw [cellsOf_len, L_u2]
  have C_u3 : (cellsOf u3).length = 32 := by rw [cellsOf_len, L_u3]
  have S_kv : (cellsOf kv).toArray.size = 32 := by simp [cellsOf_len, L_kv]
  have O_kv := cellsOf_one kv
  have S_ua : (cellsOf ua).toArray.size = 32 := by simp [cellsOf_len, L_ua]
  have O_ua := cellsOf_one ua
  have S_uf : (cellsOf uf).toArray.size = 32 := by simp [cellsOf_len, L_uf]
  have O_uf := cellsOf_one uf
  have S_u1 : (cellsOf u1).toArray.size = 32 := by simp [cellsOf_len, L_u1]
  have O_u1 := cellsOf_one u1
  have S_u2 : (cellsOf u2).toArray.size = 32 := by simp [cellsOf_len, L_u2]
  have O_u2 := cellsOf_one u2
  have S_u3 : (cellsOf u3).toArray.size = 32 := by simp [cellsOf_len, L_u3]
  have O_u3 := cellsOf_one u3
  have S_pa : (cellsOf pa).toArray.size = 64 := by simp [cellsOf_len, L_pa]
  have O_pa := cellsOf_one pa
  have S_pf : (cellsOf pf).toArray.size = 64 := by simp [cellsOf_len, L_pf]
  have O_pf := cellsOf_one pf
  have S_oo : oo.toArray.size = 193 := by rw [List.size_toArray, L_oo]
  have S_ov : ov.toArray.size = 193 := by rw [List.size_toArray, L_ov]
  have S_or : or.toArray.size = 193 := by rw [List.size_toArray, L_or]
  have S_bu : bu.toArray.size = 97 := by rw [List.size_toArray, L_bu]
  have S_bv : bv.toArray.size = 97 := by rw [List.size_toArray, L_bv]
  have hal : ∀ w, (zeroValue 23).run Tryd.prog w = .ok (.agg (cellsOf (List.replicate 32 0)).toArray) w := fun w => by rw [zeros32_cells]; exact key_alloc w
  have hal2 := apair_alloc
  have hal3 := own_alloc
  have hal4 := bundle_alloc
  have hbz := Lib.hid zero_built
  have L_zk : (List.replicate 32 (0 : UInt8)).length = 32 := rfl
  have L_zp : (List.replicate 64 (0 : UInt8)).length = 64 := by simp
  have L_zo : (bbC (List.replicate 192 0) false).length = 193 := by rw [bbC_len]; simp
  have L_zb : (bbC (List.replicate 96 0) false).length = 97 := by rw [bbC_len]; simp
  generalize bbC (List.replicate 192 0) false = zo at *
  generalize bbC (List.replicate 96 0) false = zb at *
  generalize List.replicate 32 (0 : UInt8) = zk at *
  generalize List.replicate 64 (0 : UInt8) = zp at *
  have S_zk : (cellsOf zk).toArray.size = 32 := by simp [cellsOf_len, L_zk]
  have O_zk := cellsOf_one zk
  have S_zp : (cellsOf zp).toArray.size = 64 := by simp [cellsOf_len, L_zp]
  have O_zp := cellsOf_one zp
  have S_zo : zo.toArray.size = 193 := by rw [List.size_toArray, L_zo]
  have S_zb : zb.toArray.size = 97 := by rw [List.size_toArray, L_zb]
  have C_zk : (cellsOf zk).length = 32 := by rw [cellsOf_len, L_zk]
  have V1 : Hid (∀ (W : World) (g : Nat) T, Cb W g T bv → ∀ j v, (cellsOf u1)[j]? = some v → W.cell? ⟨g, 0 + j, none⟩ = some v) := fun W g T h => h.mid (p := []) (q :=  (cellsOf u2 ++ (cellsOf zk ++ [.bool false]))) ((BVe.out ()).trans (List.nil_append _).symm) rfl
  have V2 : Hid (∀ (W : World) (g : Nat) T, Cb W g T bv → ∀ j v, (cellsOf u2)[j]? = some v → W.cell? ⟨g, 32 + j, none⟩ = some v) := fun W g T h => h.mid (p := cellsOf u1) (q := (cellsOf zk ++ [.bool false])) (by first | (rw [BVe.out ()]; simp; done) | rw [BVe.out ()]) (by simp [cellsOf_len, L_u1, L_u2, L_u3, L_zk, K_1, K_2, K_3, K_m])
  have V3 : Hid (∀ (W : World) (g : Nat) T, Cb W g T bv → ∀ j v, (cellsOf zk)[j]? = some v → W.cell? ⟨g, 64 + j, none⟩ = some v) := fun W g T h => h.mid (p := (cellsOf u1 ++ cellsOf u2)) (q := [.bool false]) (by first | (rw [BVe.out ()]; simp; done) | rw [BVe.out ()]) (by simp [cellsOf_len, L_u1, L_u2, L_u3, L_zk, K_1, K_2, K_3, K_m])
  have V4 : Hid (bv[96]? = some (.bool false)) := by unfold Hid; rw [BVe.out ()]; simp [List.getElem?_append_right, cellsOf_len, L_u1, L_u2, L_u3, L_zk, K_1, K_2, K_3, K_m]
  have B1 : Hid (∀ (W : World) (g : Nat) T, Cb W g T bu → ∀ j v, (cellsOf u1)[j]? = some v → W.cell? ⟨g, 0 + j, none⟩ = some v) := fun W g T h => h.mid (p := []) (q :=  (cellsOf u2 ++ (cellsOf u3 ++ [.bool true]))) ((BUe.out ()).trans (List.nil_append _).symm) rfl
  have B2 : Hid (∀ (W : World) (g : Nat) T, Cb W g T bu → ∀ j v, (cellsOf u2)[j]? = some v → W.cell? ⟨g, 32 + j, none⟩ = some v) := fun W g T h => h.mid (p := cellsOf u1) (q := (cellsOf u3 ++ [.bool true])) (by first | (rw [BUe.out ()]; simp; done) | rw [BUe.out ()]) (by simp [cellsOf_len, L_u1, L_u2, L_u3, L_zk, K_1, K_2, K_3, K_m])
  have B3 : Hid (∀ (W : World) (g : Nat) T, Cb W g T bu → ∀ j v, (cellsOf u3)[j]? = some v → W.cell? ⟨g, 64 + j, none⟩ = some v) := fun W g T h => h.mid (p := (cellsOf u1 ++ cellsOf u2)) (q := [.bool true]) (by first | (rw [BUe.out ()]; simp; done) | rw [BUe.out ()]) (by simp [cellsOf_len, L_u1, L_u2, L_u3, L_zk, K_1, K_2, K_3, K_m])
  have B4 : Hid (bu[96]? = some (.bool true)) := by unfold Hid; rw [BUe.out ()]; simp [List.getElem?_append_right, cellsOf_len, L_u1, L_u2, L_u3, L_zk, K_1, K_2, K_3, K_m]
  have OP : Hid (∀ (W : World) (g : Nat) T, Cb W g T oo → ∀ j v, (cellsOf u3)[j]? = some v → W.cell? ⟨g, 160 + j, none⟩ = some v) := fun W g T h => h.mid (p := (cellsOf p1 ++ (cellsOf p2 ++ cellsOf m3))) (q := [.bool true]) (by first | (rw [OOe.out ()]; simp; done) | rw [OOe.out ()]) (by simp [cellsOf_len, L_u1, L_u2, L_u3, L_zk, K_1, K_2, K_3, K_m])
  have PUT : Hid (∀ (W : World) (g : Nat) T, Cb W g T ov → Cb (W.setCells g 128 (cellsOf pa)) g T or) := fun W g T h => by
    have := h.put (z := cellsOf pa) (OVe.out ()) (off := 128) (by simp [cellsOf_len, L_u1, L_u2, L_u3, L_zk, K_1, K_2, K_3, K_m]) (by simp [cellsOf_len, L_u1, L_u2, L_u3, L_zk, K_1, K_2, K_3, K_m, L_pa])
    rw [← ORe.out ()] at this
    exact this
  clear BUe BVe OOe OVe ORe K_1 K_2 K_3 K_m
  have C0 : Hid ((cellsOf sd)[0]? = some (.int .u8 (p.toNat : Int))) := h0
  have C1 : Hid ((cellsOf sd)[1]? = some (.int .u8 (q.toNat : Int))) := h1
  have C2 : Hid ((cellsOf sd)[2]? = some (.int .u8 (r.toNat : Int))) := h2
  clear h0 h1 h2
  generalize cellsOf sd = sc at *
  obtain ⟨gs, hgs⟩ : ∃ g, g = w.heap.size := ⟨_, rfl⟩
  have B0 : Hid (Cb (w.alloc (Obj.cells sc.toArray 42)) gs 42 sc ∧ Ext w (w.alloc (Obj.cells sc.toArray 42))) := by rw [hgs]; exact ⟨Cb.new _ _ _, (Ext.refl w).alloc _⟩
  go_enter Tryd.func6, Tryd.ntmps6
  go_upto_region 1 with fail
  refine wp_gen (fun W => Cb W gs 42 sc ∧ Ext w W) B0.out ?_
  rw [← hgs]
  clear B0
  replace hgs := Lib.hid hgs
  rintro w0 ⟨q_s, q_x⟩
  have Q0 : Hid (∀ s, Ext w0 s → Cb s gs 42 sc ∧ Ext w s) := fun s e => ⟨q_s.ext e, q_x.trans e⟩
  clear q_s q_x
  go_wp2_with fail
  refine (AW.out _ ((Q0.out _ (Ext.refl _)).2)).mono ?_
  rintro e w1 ⟨rfl, e1⟩
  have Q1 : Hid (∀ s, Ext w1 s → Cb s gs 42 sc ∧ Ext w s) := fun s e => Q0.out s (e1.trans e)
  clear Q0 e1
  have bc0 := ((Q1.out _ (Ext.refl _)).1).cell C0.out
  go_wp2_with fail
  refine (OW.out _).mono ?_
  rintro e u_ ⟨rfl, e1⟩
  have a1 : Hid ((u_.alloc (Obj.cells zo.toArray 34)).heap[u_.heap.size]? = some (.cells zo.toArray 34 (0, 0))) := heap_alloc_new _ _
  have E_ : Ext w1 ((u_.alloc (Obj.cells zo.toArray 34)).setRow u_.heap.size oo.toArray) := e1.trans (below_setRow ((Ext.refl u_).alloc _) (Nat.le_refl _) _)
  go_upto_region 3 with (refine wpList_store_row rfl 34 _ _ rfl u_.heap.size oo.toArray rfl rfl 34 _ a1.out (by rw [S_oo]; rfl) (by rw [S_oo, S_zo]) O_oo.out ?_; simp only [Act.put])
  obtain ⟨go, hg_⟩ : ∃ g, g = u_.heap.size := ⟨_, rfl⟩
  refine wp_gen (fun W => Cb W go 34 oo ∧ Cb W gs 42 sc ∧ Ext w W) ⟨by rw [hg_]; exact setRow_heap _ _ _ _ _ _ a1.out, Q1.out _ E_⟩ ?_
  rw [← hg_]
  clear hg_ a1 E_ e1 Q1
  rintro w2 ⟨q_o, q_s, q_x⟩
  have Q2 : Hid (∀ s, Ext w2 s → Cb s go 34 oo ∧ Cb s gs 42 sc ∧ Ext w s) := fun s e => ⟨q_o.ext e, q_s.ext e, q_x.trans e⟩
  clear q_o q_s q_x
  clear bc0
  have bc0 := ((Q2.out _ (Ext.refl _)).2.1).cell C0.out
  go_wp2_with fail
  refine (OV.out _).mono ?_
  rintro e u_ ⟨rfl, e1⟩
  have a1 : Hid ((u_.alloc (Obj.cells zo.toArray 34)).heap[u_.heap.size]? = some (.cells zo.toArray 34 (0, 0))) := heap_alloc_new _ _
  have E_ : Ext w2 ((u_.alloc (Obj.cells zo.toArray 34)).setRow u_.heap.size ov.toArray) := e1.trans (below_setRow ((Ext.refl u_).alloc _) (Nat.le_refl _) _)
  go_upto_region 4 with (refine wpList_store_row rfl 34 _ _ rfl u_.heap.size ov.toArray rfl rfl 34 _ a1.out (by rw [S_ov]; rfl) (by rw [S_ov, S_zo]) O_ov.out ?_; simp only [Act.put])
  obtain ⟨gv, hg_⟩ : ∃ g, g = u_.heap.size := ⟨_, rfl⟩
  refine wp_gen (fun W => Cb W gv 34 ov ∧ Cb W go 34 oo ∧ Cb W gs 42 sc ∧ Ext w W) ⟨by rw [hg_]; exact setRow_heap _ _ _ _ _ _ a1.out, Q2.out _ E_⟩ ?_
  rw [← hg_]
  clear hg_ a1 E_ e1 Q2
  rintro w3 ⟨q_v, q_o, q_s, q_x⟩
  have Q3 : Hid (∀ s, Ext w3 s → Cb s gv 34 ov ∧ Cb s go 34 oo ∧ Cb s gs 42 sc ∧ Ext w s) := fun s e => ⟨q_v.ext e, q_o.ext e, q_s.ext e, q_x.trans e⟩
  clear q_v q_o q_s q_x
  clear bc0
  have bc1 := ((Q3.out _ (Ext.refl _)).2.2.1).cell C1.out
  go_wp2_with fail
  refine (PA.out _ _).mono ?_
  rintro e u_ ⟨rfl, e1⟩
  have a1 : Hid ((u_.alloc (Obj.cells (cellsOf zp).toArray 25)).heap[u_.heap.size]? = some (.cells (cellsOf zp).toArray 25 (0, 0))) := heap_alloc_new _ _
  have E_ : Ext w3 ((u_.alloc (Obj.cells (cellsOf zp).toArray 25)).setRow u_.heap.size (cellsOf pa).toArray) := e1.trans (below_setRow ((Ext.refl u_).alloc _) (Nat.le_refl _) _)
  go_upto_region 5 with (refine wpList_store_row rfl 25 _ _ rfl u_.heap.size (cellsOf pa).toArray rfl rfl 25 _ a1.out (by rw [S_pa]; rfl) (by rw [S_pa, S_zp]) O_pa ?_; simp only [Act.put])
  obtain ⟨ga, hg_⟩ : ∃ g, g = u_.heap.size := ⟨_, rfl⟩
  refine wp_gen (fun W => Kp W ga pa ∧ Cb W gv 34 ov ∧ Cb W go 34 oo ∧ Cb W gs 42 sc ∧ Ext w W) ⟨⟨by rw [hg_]; exact setRow_heap _ _ _ _ _ _ a1.out, L_pa⟩, Q3.out _ E_⟩ ?_
  rw [← hg_]
  clear hg_ a1 E_ e1 Q3
  rintro w4 ⟨q_a, q_v, q_o, q_s, q_x⟩
  have Q4 : Hid (∀ s, Ext w4 s → Kp s ga pa ∧ Cb s gv 34 ov ∧ Cb s go 34 oo ∧ Cb s gs 42 sc ∧ Ext w s) := fun s e => ⟨q_a.ext e, q_v.ext e, q_o.ext e, q_s.ext e, q_x.trans e⟩
  clear q_a q_v q_o q_s q_x
  clear bc1
  have bc2 := ((Q4.out _ (Ext.refl _)).2.2.2.1).cell C2.out
  go_wp2_with fail
  refine (PF.out _ _).mono ?_
  rintro e u_ ⟨rfl, e1⟩
  have a1 : Hid ((u_.alloc (Obj.cells (cellsOf zp).toArray 25)).heap[u_.heap.size]? = some (.cells (cellsOf zp).toArray 25 (0, 0))) := heap_alloc_new _ _
  have E_ : Ext w4 ((u_.alloc (Obj.cells (cellsOf zp).toArray 25)).setRow u_.heap.size (cellsOf pf).toArray) := e1.trans (below_setRow ((Ext.refl u_).alloc _) (Nat.le_refl _) _)
  go_upto_region 6 with (refine wpList_store_row rfl 25 _ _ rfl u_.heap.size (cellsOf pf).toArray rfl rfl 25 _ a1.out (by rw [S_pf]; rfl) (by rw [S_pf, S_zp]) O_pf ?_; simp only [Act.put])
  obtain ⟨gf, hg_⟩ : ∃ g, g = u_.heap.size := ⟨_, rfl⟩
  refine wp_gen (fun W => Kp W gf pf ∧ Kp W ga pa ∧ Cb W gv 34 ov ∧ Cb W go 34 oo ∧ Cb W gs 42 sc ∧ Ext w W) ⟨⟨by rw [hg_]; exact setRow_heap _ _ _ _ _ _ a1.out, L_pf⟩, Q4.out _ E_⟩ ?_
  rw [← hg_]
  clear hg_ a1 E_ e1 Q4
  rintro w5 ⟨q_f, q_a, q_v, q_o, q_s, q_x⟩
  have Q5 : Hid (∀ s, Ext w5 s → Kp s gf pf ∧ Kp s ga pa ∧ Cb s gv 34 ov ∧ Cb s go 34 oo ∧ Cb s gs 42 sc ∧ Ext w s) := fun s e => ⟨q_f.ext e, q_a.ext e, q_v.ext e, q_o.ext e, q_s.ext e, q_x.trans e⟩
  clear q_f q_a q_v q_o q_s q_x
  clear bc2
  go_wp2_with (refine wpList_load_rowW rfl 34 _ rfl gv rfl 34 ov.toArray (0, 0) _ ((Q5.out _ (Ext.refl _)).2.2.1) rfl rfl (by rw [S_ov]; rfl) ?_; simp only [Act.put, List.setIfInBounds_toArray, List.set_cons_zero, List.set_cons_succ])
  refine (BV.out _).mono ?_
  rintro e u_ ⟨rfl, e1⟩
  have a1 : Hid ((u_.alloc (Obj.cells zb.toArray 27)).heap[u_.heap.size]? = some (.cells zb.toArray 27 (0, 0))) := heap_alloc_new _ _
  have E_ : Ext w5 ((u_.alloc (Obj.cells zb.toArray 27)).setRow u_.heap.size bv.toArray) := e1.trans (below_setRow ((Ext.refl u_).alloc _) (Nat.le_refl _) _)
  go_upto_region 7 with (refine wpList_store_row rfl 27 _ _ rfl u_.heap.size bv.toArray rfl rfl 27 _ a1.out (by rw [S_bv]; rfl) (by rw [S_bv, S_zb]) O_bv.out ?_; simp only [Act.put])
  obtain ⟨gb, hg_⟩ : ∃ g, g = u_.heap.size := ⟨_, rfl⟩
  refine wp_gen (fun W => Cb W gb 27 bv ∧ Kp W gf pf ∧ Kp W ga pa ∧ Cb W gv 34 ov ∧ Cb W go 34 oo ∧ Cb W gs 42 sc ∧ Ext w W) ⟨by rw [hg_]; exact setRow_heap _ _ _ _ _ _ a1.out, Q5.out _ E_⟩ ?_
  rw [← hg_]
  clear hg_ a1 E_ e1 Q5
  rintro w6 ⟨q_b, q_f, q_a, q_v, q_o, q_s, q_x⟩
  have Q6 : Hid (∀ s, Ext w6 s → Cb s gb 27 bv ∧ Kp s gf pf ∧ Kp s ga pa ∧ Cb s gv 34 ov ∧ Cb s go 34 oo ∧ Cb s gs 42 sc ∧ Ext w s) := fun s e => ⟨q_b.ext e, q_f.ext e, q_a.ext e, q_v.ext e, q_o.ext e, q_s.ext e, q_x.trans e⟩
  clear q_b q_f q_a q_v q_o q_s q_x
  go_wp2_with (first
    | (refine wpList_load_rowW rfl 25 _ rfl ga rfl 25 (cellsOf pa).toArray (0, 0) _ ((Q6.out _ (Ext.refl _)).2.2.1).1 rfl rfl (by rw [S_pa]; rfl) ?_; simp only [Act.put, List.setIfInBounds_toArray, List.set_cons_zero, List.set_cons_succ])
    | (refine wpList_load_rowW rfl 25 _ rfl gf rfl 25 (cellsOf pf).toArray (0, 0) _ ((Q6.out _ (Ext.refl _)).2.1).1 rfl rfl (by rw [S_pf]; rfl) ?_; simp only [Act.put, List.setIfInBounds_toArray, List.set_cons_zero, List.set_cons_succ])
    | (refine wpList_load_rowW rfl 27 _ rfl gb rfl 27 bv.toArray (0, 0) _ ((Q6.out _ (Ext.refl _)).1) rfl rfl (by rw [S_bv]; rfl) ?_; simp only [Act.put, List.setIfInBounds_toArray, List.set_cons_zero, List.set_cons_succ]))
  refine (BE.out _ ((Q6.out _ (Ext.refl _)).2.2.2.2.2.2)).mono ?_
  rintro e u_ ⟨rfl, e1⟩
  have a1 : Hid ((u_.alloc (Obj.cells (cellsOf zk).toArray 23)).heap[u_.heap.size]? = some (.cells (cellsOf zk).toArray 23 (0, 0))) := heap_alloc_new _ _
  have E_ : Ext w6 ((u_.alloc (Obj.cells (cellsOf zk).toArray 23)).setRow u_.heap.size (cellsOf kv).toArray) := e1.trans (below_setRow ((Ext.refl u_).alloc _) (Nat.le_refl _) _)
  go_upto_region 8 with (refine wpList_store_row rfl 23 _ _ rfl u_.heap.size (cellsOf kv).toArray rfl rfl 23 _ a1.out (by rw [S_kv]; rfl) (by rw [S_kv, S_zk]) O_kv ?_; simp only [Act.put])
  obtain ⟨gk, hg_⟩ : ∃ g, g = u_.heap.size := ⟨_, rfl⟩
  refine wp_gen (fun W => Ky W gk kv ∧ Cb W gb 27 bv ∧ Kp W gf pf ∧ Kp W ga pa ∧ Cb W gv 34 ov ∧ Cb W go 34 oo ∧ Cb W gs 42 sc ∧ Ext w W) ⟨⟨by rw [hg_]; exact setRow_heap _ _ _ _ _ _ a1.out, L_kv⟩, Q6.out _ E_⟩ ?_
  rw [← hg_]
  clear hg_ a1 E_ e1 Q6
  rintro w7 ⟨q_k, q_b, q_f, q_a, q_v, q_o, q_s, q_x⟩
  have Q7 : Hid (∀ s, Ext w7 s → Ky s gk kv ∧ Cb s gb 27 bv ∧ Kp s gf pf ∧ Kp s ga pa ∧ Cb s gv 34 ov ∧ Cb s go 34 oo ∧ Cb s gs 42 sc ∧ Ext w s) := fun s e => ⟨q_k.ext e, q_b.ext e, q_f.ext e, q_a.ext e, q_v.ext e, q_o.ext e, q_s.ext e, q_x.trans e⟩
  clear q_k q_b q_f q_a q_v q_o q_s q_x
  go_wp2_with (first
    | (refine wpList_load_rowW rfl 34 _ rfl gv rfl 34 ov.toArray (0, 0) _ ((Q7.out _ (Ext.refl _)).2.2.2.2.1) rfl rfl (by rw [S_ov]; rfl) ?_; simp only [Act.put, List.setIfInBounds_toArray, List.set_cons_zero, List.set_cons_succ])
    | (refine wpList_load_mid rfl (g := ga) (off := 32) (ys := cellsOf ua) rfl rfl (UA.out _ _ ((Q7.out _ (Ext.refl _)).2.2.2.1)) rfl rfl (by rw [C_ua]; rfl) ?_; simp only [Act.put, List.setIfInBounds_toArray, List.set_cons_zero, List.set_cons_succ])
    | (refine wpList_load_mid rfl (g := gf) (off := 32) (ys := cellsOf uf) rfl rfl (UF.out _ _ ((Q7.out _ (Ext.refl _)).2.2.1)) rfl rfl (by rw [C_uf]; rfl) ?_; simp only [Act.put, List.setIfInBounds_toArray, List.set_cons_zero, List.set_cons_succ]))
  refine (AN.out _ ((Q7.out _ (Ext.refl _)).2.2.2.2.2.2.2)).mono ?_
  rintro e u_ ⟨rfl, e1⟩
  have a1 : Hid ((u_.alloc (Obj.cells (cellsOf zk).toArray 23)).heap[u_.heap.size]? = some (.cells (cellsOf zk).toArray 23 (0, 0))) := heap_alloc_new _ _
  have E_ : Ext w7 ((u_.alloc (Obj.cells (cellsOf zk).toArray 23)).setRow u_.heap.size (cellsOf kv).toArray) := e1.trans (below_setRow ((Ext.refl u_).alloc _) (Nat.le_refl _) _)
  go_upto_region 9 with (refine wpList_store_row rfl 23 _ _ rfl u_.heap.size (cellsOf kv).toArray rfl rfl 23 _ a1.out (by rw [S_kv]; rfl) (by rw [S_kv, S_zk]) O_kv ?_; simp only [Act.put])
  obtain ⟨gm, hg_⟩ : ∃ g, g = u_.heap.size := ⟨_, rfl⟩
  refine wp_gen (fun W => Ky W gm kv ∧ Ky W gk kv ∧ Cb W gb 27 bv ∧ Kp W gf pf ∧ Kp W ga pa ∧ Cb W gv 34 ov ∧ Cb W go 34 oo ∧ Cb W gs 42 sc ∧ Ext w W) ⟨⟨by rw [hg_]; exact setRow_heap _ _ _ _ _ _ a1.out, L_kv⟩, Q7.out _ E_⟩ ?_
  rw [← hg_]
  clear hg_ a1 E_ e1 Q7
  rintro w8 ⟨q_m, q_k, q_b, q_f, q_a, q_v, q_o, q_s, q_x⟩
  have Q8 : Hid (∀ s, Ext w8 s → Ky s gm kv ∧ Ky s gk kv ∧ Cb s gb 27 bv ∧ Kp s gf pf ∧ Kp s ga pa ∧ Cb s gv 34 ov ∧ Cb s go 34 oo ∧ Cb s gs 42 sc ∧ Ext w s) := fun s e => ⟨q_m.ext e, q_k.ext e, q_b.ext e, q_f.ext e, q_a.ext e, q_v.ext e, q_o.ext e, q_s.ext e, q_x.trans e⟩
  clear q_m q_k q_b q_f q_a q_v q_o q_s q_x
  obtain ⟨gr, hgr⟩ : ∃ g, g = w8.heap.size := ⟨_, rfl⟩
  have a1 : Hid (∀ C : Array Value, (w8.alloc (Obj.cells C 34)).heap[gr]? = some (.cells C 34 (0, 0))) := fun C => by rw [hgr]; exact heap_alloc_new _ _
  have a2 : Hid (Cb ((w8.alloc (Obj.cells zo.toArray 34)).setRow gr ov.toArray) gr 34 ov ∧ Ext w8 ((w8.alloc (Obj.cells zo.toArray 34)).setRow gr ov.toArray)) := by
    rw [hgr]
    exact ⟨setRow_heap _ _ _ _ _ _ (heap_alloc_new _ _), below_setRow ((Ext.refl _).alloc _) (Nat.le_refl _) _⟩
  have lgr : w8.heap.size ≤ gr := Nat.le_of_eq hgr.symm
  go_upto_region 10 with (first
    | (refine wpList_load_rowW rfl 34 _ rfl gv rfl 34 ov.toArray (0, 0) _ ((Q8.out _ (Ext.refl _)).2.2.2.2.2.1) rfl rfl (by rw [S_ov]; rfl) ?_; simp only [Act.put, List.setIfInBounds_toArray, List.set_cons_zero, List.set_cons_succ])
    | (rw [← hgr]; refine wpList_store_row rfl 34 _ _ rfl gr ov.toArray rfl rfl 34 _ (a1.out _) (by rw [S_ov]; rfl) (by rw [S_ov, S_zo]) O_ov.out ?_; simp only [Act.put]))
  refine wp_gen (fun W => Cb W gr 34 ov ∧ Ext w8 W) a2.out ?_
  clear a1 a2
  replace hgr := Lib.hid hgr
  rintro v_ ⟨c1, e1⟩
  have th : Hid (v_.there gr 128 64) := c1.there (by rw [L_ov]; omega)
  have c2 := Lib.hid (PUT.out _ _ _ c1)
  have gr_ : v_.grownBy (v_.setCells gr 128 (cellsOf pa)) (some gr) := grown_setCells
  have g2 : Hid (Ext w8 (v_.setCells gr 128 (cellsOf pa))) := Below.trans e1 ⟨gr_.os, gr_.tape, gr_.output, gr_.size, fun i hi => gr_.block i (Nat.lt_of_lt_of_le hi e1.size) (fun q => by have := Option.some.inj q; omega)⟩
  replace c1 := Lib.hid c1
  have E1 := Lib.hid e1
  have pa_ := Lib.hid (((Q8.out _ e1).2.2.2.2.1))
  clear e1 gr_
  go_upto_region 11 with (first
    | (refine wpList_load_rowW rfl 25 _ rfl ga rfl 25 (cellsOf pa).toArray (0, 0) _ pa_.out.1 rfl rfl (by rw [S_pa]; rfl) ?_; simp only [Act.put, List.setIfInBounds_toArray, List.set_cons_zero, List.set_cons_succ])
    | (refine wpList_store_mid rfl 25 _ _ rfl gr 128 (cellsOf pa).toArray rfl rfl (by rw [S_pa]; exact th.out) (by rw [S_pa]; rfl) O_pa ?_; simp only [Act.put]))
  refine wp_gen (fun W => Cb W gr 34 or ∧ Ky W gm kv ∧ Ky W gk kv ∧ Cb W gb 27 bv ∧ Kp W gf pf ∧ Kp W ga pa ∧ Cb W gv 34 ov ∧ Cb W go 34 oo ∧ Cb W gs 42 sc ∧ Ext w W) ⟨c2.out, Q8.out _ g2.out⟩ ?_
  clear c1 c2 g2 E1 pa_ th Q8
  rintro w9 ⟨q_r, q_m, q_k, q_b, q_f, q_a, q_v, q_o, q_s, q_x⟩
  have Q9 : Hid (∀ s, Ext w9 s → Cb s gr 34 or ∧ Ky s gm kv ∧ Ky s gk kv ∧ Cb s gb 27 bv ∧ Kp s gf pf ∧ Kp s ga pa ∧ Cb s gv 34 ov ∧ Cb s go 34 oo ∧ Cb s gs 42 sc ∧ Ext w s) := fun s e => ⟨q_r.ext e, q_m.ext e, q_k.ext e, q_b.ext e, q_f.ext e, q_a.ext e, q_v.ext e, q_o.ext e, q_s.ext e, q_x.trans e⟩
  clear q_r q_m q_k q_b q_f q_a q_v q_o q_s q_x
  go_wp2_with (first
    | (refine wpList_load_rowW rfl 34 _ rfl gr rfl 34 or.toArray (0, 0) _ ((Q9.out _ (Ext.refl _)).1) rfl rfl (by rw [S_or]; rfl) ?_; simp only [Act.put, List.setIfInBounds_toArray, List.set_cons_zero, List.set_cons_succ])
    | (refine wpList_load_mid rfl (g := ga) (off := 32) (ys := cellsOf ua) rfl rfl (UA.out _ _ ((Q9.out _ (Ext.refl _)).2.2.2.2.2.1)) rfl rfl (by rw [C_ua]; rfl) ?_; simp only [Act.put, List.setIfInBounds_toArray, List.set_cons_zero, List.set_cons_succ])
    | (refine wpList_load_mid rfl (g := gf) (off := 32) (ys := cellsOf uf) rfl rfl (UF.out _ _ ((Q9.out _ (Ext.refl _)).2.2.2.2.1)) rfl rfl (by rw [C_uf]; rfl) ?_; simp only [Act.put, List.setIfInBounds_toArray, List.set_cons_zero, List.set_cons_succ]))
  refine (AO.out _ ((Q9.out _ (Ext.refl _)).2.2.2.2.2.2.2.2.2)).mono ?_
  rintro e u_ ⟨rfl, e1⟩
  have a1 : Hid ((u_.alloc (Obj.cells (cellsOf zk).toArray 23)).heap[u_.heap.size]? = some (.cells (cellsOf zk).toArray 23 (0, 0))) := heap_alloc_new _ _
  have E_ : Ext w9 ((u_.alloc (Obj.cells (cellsOf zk).toArray 23)).setRow u_.heap.size (cellsOf kv).toArray) := e1.trans (below_setRow ((Ext.refl u_).alloc _) (Nat.le_refl _) _)
  go_upto_region 12 with (refine wpList_store_row rfl 23 _ _ rfl u_.heap.size (cellsOf kv).toArray rfl rfl 23 _ a1.out (by rw [S_kv]; rfl) (by rw [S_kv, S_zk]) O_kv ?_; simp only [Act.put])
  obtain ⟨gn, hg_⟩ : ∃ g, g = u_.heap.size := ⟨_, rfl⟩
  refine wp_gen (fun W => Ky W gn kv ∧ Cb W gr 34 or ∧ Ky W gm kv ∧ Ky W gk kv ∧ Cb W gb 27 bv ∧ Kp W gf pf ∧ Kp W ga pa ∧ Cb W gv 34 ov ∧ Cb W go 34 oo ∧ Cb W gs 42 sc ∧ Ext w W) ⟨⟨by rw [hg_]; exact setRow_heap _ _ _ _ _ _ a1.out, L_kv⟩, Q9.out _ E_⟩ ?_
  rw [← hg_]
  clear hg_ a1 E_ e1 Q9
  rintro w10 ⟨q_n, q_r, q_m, q_k, q_b, q_f, q_a, q_v, q_o, q_s, q_x⟩
  have Q10 : Hid (∀ s, Ext w10 s → Ky s gn kv ∧ Cb s gr 34 or ∧ Ky s gm kv ∧ Ky s gk kv ∧ Cb s gb 27 bv ∧ Kp s gf pf ∧ Kp s ga pa ∧ Cb s gv 34 ov ∧ Cb s go 34 oo ∧ Cb s gs 42 sc ∧ Ext w s) := fun s e => ⟨q_n.ext e, q_r.ext e, q_m.ext e, q_k.ext e, q_b.ext e, q_f.ext e, q_a.ext e, q_v.ext e, q_o.ext e, q_s.ext e, q_x.trans e⟩
  clear q_n q_r q_m q_k q_b q_f q_a q_v q_o q_s q_x
  go_wp2_with (refine wpList_load_rowW rfl 34 _ rfl go rfl 34 oo.toArray (0, 0) _ ((Q10.out _ (Ext.refl _)).2.2.2.2.2.2.2.2.1) rfl rfl (by rw [S_oo]; rfl) ?_; simp only [Act.put, List.setIfInBounds_toArray, List.set_cons_zero, List.set_cons_succ])
  refine (BU.out _).mono ?_
  rintro e u_ ⟨rfl, e1⟩
  have a1 : Hid ((u_.alloc (Obj.cells zb.toArray 27)).heap[u_.heap.size]? = some (.cells zb.toArray 27 (0, 0))) := heap_alloc_new _ _
  have E_ : Ext w10 ((u_.alloc (Obj.cells zb.toArray 27)).setRow u_.heap.size bu.toArray) := e1.trans (below_setRow ((Ext.refl u_).alloc _) (Nat.le_refl _) _)
  go_upto_region 13 with (refine wpList_store_row rfl 27 _ _ rfl u_.heap.size bu.toArray rfl rfl 27 _ a1.out (by rw [S_bu]; rfl) (by rw [S_bu, S_zb]) O_bu.out ?_; simp only [Act.put])
  obtain ⟨gc, hg_⟩ : ∃ g, g = u_.heap.size := ⟨_, rfl⟩
  refine wp_gen (fun W => Cb W gc 27 bu ∧ Ky W gn kv ∧ Cb W gr 34 or ∧ Ky W gm kv ∧ Ky W gk kv ∧ Cb W gb 27 bv ∧ Kp W gf pf ∧ Kp W ga pa ∧ Cb W gv 34 ov ∧ Cb W go 34 oo ∧ Cb W gs 42 sc ∧ Ext w W) ⟨by rw [hg_]; exact setRow_heap _ _ _ _ _ _ a1.out, Q10.out _ E_⟩ ?_
  rw [← hg_]
  clear hg_ a1 E_ e1 Q10
  rintro w11 ⟨q_c, q_n, q_r, q_m, q_k, q_b, q_f, q_a, q_v, q_o, q_s, q_x⟩
  have Q11 : Hid (∀ s, Ext w11 s → Cb s gc 27 bu ∧ Ky s gn kv ∧ Cb s gr 34 or ∧ Ky s gm kv ∧ Ky s gk kv ∧ Cb s gb 27 bv ∧ Kp s gf pf ∧ Kp s ga pa ∧ Cb s gv 34 ov ∧ Cb s go 34 oo ∧ Cb s gs 42 sc ∧ Ext w s) := fun s e => ⟨q_c.ext e, q_n.ext e, q_r.ext e, q_m.ext e, q_k.ext e, q_b.ext e, q_f.ext e, q_a.ext e, q_v.ext e, q_o.ext e, q_s.ext e, q_x.trans e⟩
  clear q_c q_n q_r q_m q_k q_b q_f q_a q_v q_o q_s q_x
  have bb := ((Q11.out _ (Ext.refl _)).2.2.2.2.2.1).cell V4.out
  have bc := ((Q11.out _ (Ext.refl _)).1).cell B4.out
  have heq : Hid (∀ xs : List UInt8, decide (xs = xs) = true) := fun _ => decide_eq_true rfl
  go_wp2_with (first
    | (refine wpList_load_rowW rfl 23 _ rfl gk rfl 23 (cellsOf kv).toArray (0, 0) _ ((Q11.out _ (Ext.refl _)).2.2.2.2.1).1 rfl rfl (by rw [S_kv]; rfl) ?_; simp only [Act.put, List.setIfInBounds_toArray, List.set_cons_zero, List.set_cons_succ])
    | (refine wpList_load_rowW rfl 23 _ rfl gm rfl 23 (cellsOf kv).toArray (0, 0) _ ((Q11.out _ (Ext.refl _)).2.2.2.1).1 rfl rfl (by rw [S_kv]; rfl) ?_; simp only [Act.put, List.setIfInBounds_toArray, List.set_cons_zero, List.set_cons_succ])
    | (refine wpList_load_rowW rfl 23 _ rfl gn rfl 23 (cellsOf kv).toArray (0, 0) _ ((Q11.out _ (Ext.refl _)).2.1).1 rfl rfl (by rw [S_kv]; rfl) ?_; simp only [Act.put, List.setIfInBounds_toArray, List.set_cons_zero, List.set_cons_succ])
    | (refine wpList_build_as rfl _ _ rfl (cellsOf zk).toArray (by simp only [List.map_toArray, List.map_nil]; exact hbz.out) ?_; simp only [Act.put, List.setIfInBounds_toArray, List.set_cons_zero, List.set_cons_succ])
    | (refine wpList_load_mid rfl (g := gb) (off := 64) (ys := cellsOf zk) rfl rfl (V3.out _ _ _ ((Q11.out _ (Ext.refl _)).2.2.2.2.2.1)) rfl rfl (by rw [C_zk]; rfl) ?_; simp only [Act.put, List.setIfInBounds_toArray, List.set_cons_zero, List.set_cons_succ])
    | (refine wpList_load_mid rfl (g := gb) (off := 32) (ys := cellsOf u2) rfl rfl (V2.out _ _ _ ((Q11.out _ (Ext.refl _)).2.2.2.2.2.1)) rfl rfl (by rw [C_u2]; rfl) ?_; simp only [Act.put, List.setIfInBounds_toArray, List.set_cons_zero, List.set_cons_succ])
    | (refine wpList_load_mid rfl (g := gb) (off := 0) (ys := cellsOf u1) rfl rfl (V1.out _ _ _ ((Q11.out _ (Ext.refl _)).2.2.2.2.2.1)) rfl rfl (by rw [C_u1]; rfl) ?_; simp only [Act.put, List.setIfInBounds_toArray, List.set_cons_zero, List.set_cons_succ])
    | (refine wpList_load_mid rfl (g := gc) (off := 64) (ys := cellsOf u3) rfl rfl (B3.out _ _ _ ((Q11.out _ (Ext.refl _)).1)) rfl rfl (by rw [C_u3]; rfl) ?_; simp only [Act.put, List.setIfInBounds_toArray, List.set_cons_zero, List.set_cons_succ])
    | (refine wpList_load_mid rfl (g := gc) (off := 32) (ys := cellsOf u2) rfl rfl (B2.out _ _ _ ((Q11.out _ (Ext.refl _)).1)) rfl rfl (by rw [C_u2]; rfl) ?_; simp only [Act.put, List.setIfInBounds_toArray, List.set_cons_zero, List.set_cons_succ])
    | (refine wpList_load_mid rfl (g := gc) (off := 0) (ys := cellsOf u1) rfl rfl (B1.out _ _ _ ((Q11.out _ (Ext.refl _)).1)) rfl rfl (by rw [C_u1]; rfl) ?_; simp only [Act.put, List.setIfInBounds_toArray, List.set_cons_zero, List.set_cons_succ])
    | (refine wpList_load_mid rfl (g := go) (off := 160) (ys := cellsOf u3) rfl rfl (OP.out _ _ _ ((Q11.out _ (Ext.refl _)).2.2.2.2.2.2.2.2.2.1)) rfl rfl (by rw [C_u3]; rfl) ?_; simp only [Act.put, List.setIfInBounds_toArray, List.set_cons_zero, List.set_cons_succ])
    | (refine wpList_eql_keyB rfl _ _ _ rfl kv kv true (heq.out _) rfl rfl L_kv L_kv ?_; simp only [Act.put, List.setIfInBounds_toArray, List.set_cons_zero, List.set_cons_succ])
    | (refine wpList_eql_keyB rfl _ _ _ rfl zk zk true (heq.out _) rfl rfl L_zk L_zk ?_; simp only [Act.put, List.setIfInBounds_toArray, List.set_cons_zero, List.set_cons_succ])
    | (refine wpList_eql_keyB rfl _ _ _ rfl u1 u1 true (heq.out _) rfl rfl L_u1 L_u1 ?_; simp only [Act.put, List.setIfInBounds_toArray, List.set_cons_zero, List.set_cons_succ])
    | (refine wpList_eql_keyB rfl _ _ _ rfl u2 u2 true (heq.out _) rfl rfl L_u2 L_u2 ?_; simp only [Act.put, List.setIfInBounds_toArray, List.set_cons_zero, List.set_cons_succ])
    | (refine wpList_eql_keyB rfl _ _ _ rfl u3 u3 true (heq.out _) rfl rfl L_u3 L_u3 ?_; simp only [Act.put, List.setIfInBounds_toArray, List.set_cons_zero, List.set_cons_succ]))
  go_ret
  exact ⟨rfl, ((Q11.out _ (Ext.refl _)).2.2.2.2.2.2.2.2.2.2.2)⟩
end Go.Proofs.YtfhafednnnfmbaaDoor
