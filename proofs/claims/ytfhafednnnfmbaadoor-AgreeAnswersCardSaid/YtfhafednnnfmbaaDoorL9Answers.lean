import Derived.Test.YtfhafednnnfmbaaDoorPkC
import Derived.Test.YtfhafednnnfmbaaDoorPkB
import Derived.Test.YtfhafednnnfmbaaDoorRof
import Derived.Test.YtfhafednnnfmbaaDoorRbegin
import Derived.Test.YtfhafednnnfmbaaDoorAwake9
import Derived.Test.YtfhafednnnfmbaaDoorEqBun
/-
  AgreeAnswers: the key that comes of any keys, for who is begun with, and the bundle.
-/
namespace Go.Proofs.YtfhafednnnfmbaaDoor
open Go.ChangeShapes Go.WideShapes Go.ChangeAt Go.RowKit Go.Deep
set_option maxRecDepth 100000

theorem OwnC.ne {B : Nat} {w : World} {e : TypeId} {s : Nat} {A : Option Addr} {n c : Nat} {L : List (List Value)} {T : TypeId} {L' : List Value} {g : Nat} (h : OwnC B w e s A n c L) (k : Cb w g T L') (hT : e ≠ T) : Value.ownBlock (.slice A n c) ≠ some g := by
  intro q
  rcases h.1.2 with ⟨hv, _⟩ | ⟨g', cap, cur, hv, _, hg, _⟩
  · rw [hv] at q
    simp [Value.ownBlock] at q
  · rw [hv] at q
    simp [Value.ownBlock] at q
    subst q
    have hq := Option.some.inj (hg.symm.trans k)
    injection hq with h1 h2 h3
    exact hT h2
theorem grown_setCell9 {w : World} {g o : Nat} {v : Value} : w.grownBy (w.setCell ⟨g, o, none⟩ v) (some g) := grown_setCells (w := w) (g := g) (o := o) (vs := [v])
theorem grown_keep9 {w w' : World} {g i : Nat} {o : Obj} (h : w.grownBy w' (some g)) (hi : i ≠ g) (k : w.heap[i]? = some o) : w'.heap[i]? = some o := (h.block i (heap_lt k) (fun e => hi (Option.some.inj e))).trans k
theorem ext_grown9 {w0 a b : World} {g : Nat} (h : Ext w0 a) (k : a.grownBy b (some g)) (hg : w0.heap.size ≤ g) : Ext w0 b :=
  Below.trans h ⟨k.os, k.tape, k.output, k.size, fun i hi => k.block i (Nat.lt_of_lt_of_le hi h.size) (fun e => by have := Option.some.inj e; omega)⟩
theorem set_last {p : List Value} {n : Nat} {u v : Value} (hp : p.length = n) : (p ++ [u]).set n v = p ++ [v] := by
  subst hp
  simp
set_option maxHeartbeats 16000000 in
theorem agreeAnswers_calls {w : World} {a1 a2 b1 b2 c1 c2 ik fk : List UInt8} {h : Bool} (la1 : a1.length = 32) (la2 : a2.length = 32) (lb1 : b1.length = 32) (lb2 : b2.length = 32) (lc1 : c1.length = 32) (lc2 : c2.length = 32) (L_ik : ik.length = 32) (L_fk : fk.length = 32) {tg tp : TypeId × Nat × Nat} (hG : Gl w tg) (hP : Gp w tp) :
    Calls Tryd.prog 4 #[.agg (bbC ((a1 ++ a2) ++ ((b1 ++ b2) ++ (c1 ++ c2))) h).toArray, .agg (cellsOf ik).toArray, .agg (cellsOf fk).toArray] w fun e w' => e = .returned (.bool true) ∧ Ext w w' := by
  have L_oa : (a1 ++ a2).length = 64 := by rw [List.length_append, la1, la2]
  have L_ob : (b1 ++ b2).length = 64 := by rw [List.length_append, lb1, lb2]
  have L_oc : (c1 ++ c2).length = 64 := by rw [List.length_append, lc1, lc2]
  have AW := Lib.hid (fun (W : World) (e : Ext w W) => awake9_calls (hG.ext e) (hP.ext e))
  have AN := Lib.hid (fun (W : World) (e : Ext w W) => answer_calls (h := h) L_oa L_ob L_oc L_ik L_fk (hG.ext e) (hP.ext e))
  have RO := Lib.hid (fun (W : World) (A : Option Addr) (n c : Nat) (L : List (List UInt8)) (hx : Xs W A n c L) (hn : n ≤ 4) => rof_calls hx hn)
  have BU := Lib.hid (fun (W : World) => bundle_calls (w := W) (h := h) la1 la2 lb1 lb2 lc1 lc2)
  have B2 := Lib.hid (bundle2 la2 lb2)
  have hBN : Hid (∃ xs ys zs b, (bbC (bunL a2 b2 c2 h) h) = bbC (xs ++ (ys ++ zs)) b ∧ xs.length = 32 ∧ ys.length = 32 ∧ zs.length = 32) := by
    refine ⟨a2, b2, if h then c2 else List.replicate 32 0, h, rfl, la2, lb2, ?_⟩
    cases h
    · rfl
    · exact lc2
  have L_bw : (bbC (bunL a2 b2 c2 h) h).length = 97 := by rw [bbC_len, bunL_len la2 lb2 lc2]
  have L_bz : (bbC (a2 ++ (b2 ++ List.replicate 32 0)) false).length = 97 := by rw [bbC_len]; simp [la2, lb2]
  have O_bz := Lib.hid (bbC_one (a2 ++ (b2 ++ List.replicate 32 0)) false)
  have FH : Hid (h = false → (bbC (bunL a2 b2 c2 h) h) = bbC (a2 ++ (b2 ++ List.replicate 32 0)) false) := fun q => by subst q; rfl
  have TH : Hid (h = true → (bbC (bunL a2 b2 c2 h) h) = (cellsOf a2 ++ (cellsOf b2 ++ cellsOf c2)) ++ [.bool true]) := fun q => by subst q; simp [bunL, bbC, cellsOf_app]
  have BZe : Hid (∀ _ : Unit, bbC (a2 ++ (b2 ++ List.replicate 32 0)) false = (cellsOf a2 ++ cellsOf b2) ++ (cellsOf (List.replicate 32 0) ++ [.bool false])) := fun _ => by simp [bbC, cellsOf_app]
  have OW1 : Hid (∀ _ : Unit, bbC ((a1 ++ a2) ++ ((b1 ++ b2) ++ (c1 ++ c2))) h = cellsOf a1 ++ (cellsOf a2 ++ (cellsOf b1 ++ (cellsOf b2 ++ (cellsOf c1 ++ (cellsOf c2 ++ [.bool h])))))) := fun _ => by simp [bbC, cellsOf_app]
  have OW2 : Hid (∀ _ : Unit, bbC ((a1 ++ a2) ++ ((b1 ++ b2) ++ (c1 ++ c2))) h = cellsOf (a1 ++ a2) ++ (cellsOf (b1 ++ b2) ++ (cellsOf (c1 ++ c2) ++ [.bool h]))) := fun _ => by simp [bbC, cellsOf_app]
  have L_ow : (bbC ((a1 ++ a2) ++ ((b1 ++ b2) ++ (c1 ++ c2))) h).length = 193 := by rw [bbC_len]; simp [la1, la2, lb1, lb2, lc1, lc2]
  have O_ow := Lib.hid (bbC_one ((a1 ++ a2) ++ ((b1 ++ b2) ++ (c1 ++ c2))) h)
  clear hG hP
  generalize bbC ((a1 ++ a2) ++ ((b1 ++ b2) ++ (c1 ++ c2))) h = ow at *
  generalize (bbC (bunL a2 b2 c2 h) h) = bw at *
  generalize bbC (a2 ++ (b2 ++ List.replicate 32 0)) false = bz at *
  generalize a1 ++ a2 = oa at *
  generalize b1 ++ b2 = ob at *
  generalize c1 ++ c2 = oc at *
  have P_oa : Hid (∀ (W : World) (g : Nat) T, Cb W g T ow → ∀ j v, (cellsOf oa)[j]? = some v → W.cell? ⟨g, 0 + j, none⟩ = some v) := fun W g T k_ => k_.mid (p := []) ((OW2.out ()).trans (List.nil_append _).symm) rfl
  have P_ob : Hid (∀ (W : World) (g : Nat) T, Cb W g T ow → ∀ j v, (cellsOf ob)[j]? = some v → W.cell? ⟨g, 64 + j, none⟩ = some v) := fun W g T k_ => k_.mid (OW2.out ()) (by rw [cellsOf_len, L_oa])
  have P_oc : Hid (∀ (W : World) (g : Nat) T, Cb W g T ow → ∀ j v, (cellsOf oc)[j]? = some v → W.cell? ⟨g, 128 + j, none⟩ = some v) := fun W g T k_ => k_.mid ((OW2.out ()).trans (List.append_assoc _ _ _).symm) (by rw [List.length_append, cellsOf_len, cellsOf_len, L_oa, L_ob])
  have P_a2 : Hid (∀ (W : World) (g : Nat) T, Cb W g T ow → ∀ j v, (cellsOf a2)[j]? = some v → W.cell? ⟨g, 32 + j, none⟩ = some v) := fun W g T k_ => k_.mid (OW1.out ()) (by rw [cellsOf_len, la1])
  have P_b2 : Hid (∀ (W : World) (g : Nat) T, Cb W g T ow → ∀ j v, (cellsOf b2)[j]? = some v → W.cell? ⟨g, 96 + j, none⟩ = some v) := fun W g T k_ => k_.mid (p := cellsOf a1 ++ (cellsOf a2 ++ cellsOf b1)) (q := cellsOf c1 ++ (cellsOf c2 ++ [.bool h])) ((OW1.out ()).trans (by simp)) (by simp [cellsOf_len, la1, la2, lb1])
  have P_c2 : Hid (∀ (W : World) (g : Nat) T, Cb W g T ow → ∀ j v, (cellsOf c2)[j]? = some v → W.cell? ⟨g, 160 + j, none⟩ = some v) := fun W g T k_ => k_.mid (p := cellsOf a1 ++ (cellsOf a2 ++ (cellsOf b1 ++ (cellsOf b2 ++ cellsOf c1)))) (q := [.bool h]) ((OW1.out ()).trans (by simp)) (by simp [cellsOf_len, la1, la2, lb1, lb2, lc1])
  have P_fl : Hid (ow[192]? = some (.bool h)) := by unfold Hid; rw [OW1.out ()]; simp [List.getElem?_append_right, cellsOf_len, la1, la2, lb1, lb2, lc1, lc2]
  clear OW1 OW2
  have PUT : Hid (∀ (W : World) (g : Nat) T, Cb W g T bz → Cb (W.setCells g 64 (cellsOf c2)) g T ((cellsOf a2 ++ (cellsOf b2 ++ cellsOf c2)) ++ [.bool false])) := fun W g T h => by
    have := h.put (z := cellsOf c2) (BZe.out ()) (off := 64) (by simp [cellsOf_len, la2, lb2]) (by simp [cellsOf_len, lc2])
    rw [← List.append_assoc, List.append_assoc (cellsOf a2)] at this
    exact this
  have SET : Hid (((cellsOf a2 ++ (cellsOf b2 ++ cellsOf c2)) ++ [Value.bool false]).set 96 (.bool true) = (cellsOf a2 ++ (cellsOf b2 ++ cellsOf c2)) ++ [.bool true]) := set_last (by simp [cellsOf_len, la2, lb2, lc2])
  have L_bm : ((cellsOf a2 ++ (cellsOf b2 ++ cellsOf c2)) ++ [Value.bool false]).length = 97 := by simp [cellsOf_len, la2, lb2, lc2]
  obtain ⟨LL, hLL⟩ : ∃ LL, LL = ([ob ++ ik, oa ++ fk, ob ++ fk] ++ if h then [oc ++ fk] else []) := ⟨_, rfl⟩
  rw [← hLL] at AN
  have LF : Hid (h = false → LL = [ob ++ ik, oa ++ fk, ob ++ fk]) := fun q => by rw [hLL, q]; rfl
  have LT : Hid (h = true → LL = [ob ++ ik, oa ++ fk, ob ++ fk, oc ++ fk]) := fun q => by rw [hLL, q]; rfl
  clear hLL
  have L_kv := agV_len (LL.map dhL)
  have ROk : Hid (∀ (W : World) (A : Option Addr) (n c : Nat), Xs W A n c LL → n ≤ 4 → Calls Tryd.prog 11 #[.slice A n c] W fun e w' => e = .returned (.tuple #[.agg (cellsOf (agV (LL.map dhL))).toArray, .int .i64 (agE (LL.map dhL))]) ∧ Ext W w') := fun W A n c hx hn => RO.out W A n c LL hx hn
  clear RO
  generalize agV (LL.map dhL) = kv at *
  generalize agE (LL.map dhL) = ce at *
  have B_ea := Lib.hid (row_built (o := ob) (p := ik) L_ob L_ik)
  have B_eb := Lib.hid (row_built (o := oa) (p := fk) L_oa L_fk)
  have B_ec := Lib.hid (row_built (o := ob) (p := fk) L_ob L_fk)
  have B_ed := Lib.hid (row_built (o := oc) (p := fk) L_oc L_fk)
  have L_ea : (ob ++ ik).length = 96 := by rw [List.length_append, L_ob, L_ik]
  have L_eb : (oa ++ fk).length = 96 := by rw [List.length_append, L_oa, L_fk]
  have L_ec : (ob ++ fk).length = 96 := by rw [List.length_append, L_ob, L_fk]
  have L_ed : (oc ++ fk).length = 96 := by rw [List.length_append, L_oc, L_fk]
  have L_a2 := la2
  have L_b2 := lb2
  have L_c2 := lc2
  have S_oa : (cellsOf oa).toArray.size = 64 := by simp [cellsOf_len, L_oa]
  have S_ob : (cellsOf ob).toArray.size = 64 := by simp [cellsOf_len, L_ob]
  have S_oc : (cellsOf oc).toArray.size = 64 := by simp [cellsOf_len, L_oc]
  have S96 := Z96x_size
  have hinf := Lib.hid info_row
  generalize Z96x = ZX at *
  have hzs := Lib.hid (show (Value.agg ZX).cells.size = 96 from S96)
  have C_oa : (cellsOf oa).length = 64 := by rw [cellsOf_len, L_oa]
  have C_ob : (cellsOf ob).length = 64 := by rw [cellsOf_len, L_ob]
  have C_oc : (cellsOf oc).length = 64 := by rw [cellsOf_len, L_oc]
  have C_a2 : (cellsOf a2).length = 32 := by rw [cellsOf_len, L_a2]
  have C_b2 : (cellsOf b2).length = 32 := by rw [cellsOf_len, L_b2]
  have C_c2 : (cellsOf c2).length = 32 := by rw [cellsOf_len, L_c2]
  have C_ik : (cellsOf ik).length = 32 := by rw [cellsOf_len, L_ik]
  have C_fk : (cellsOf fk).length = 32 := by rw [cellsOf_len, L_fk]
  have C_ea : (cellsOf (ob ++ ik)).length = 96 := by rw [cellsOf_len, L_ea]
  have C_eb : (cellsOf (oa ++ fk)).length = 96 := by rw [cellsOf_len, L_eb]
  have C_ec : (cellsOf (ob ++ fk)).length = 96 := by rw [cellsOf_len, L_ec]
  have C_ed : (cellsOf (oc ++ fk)).length = 96 := by rw [cellsOf_len, L_ed]
  have S_kv : (cellsOf kv).toArray.size = 32 := by simp [cellsOf_len, L_kv]
  have O_kv := cellsOf_one kv
  have S_ik : (cellsOf ik).toArray.size = 32 := by simp [cellsOf_len, L_ik]
  have O_ik := cellsOf_one ik
  have S_fk : (cellsOf fk).toArray.size = 32 := by simp [cellsOf_len, L_fk]
  have O_fk := cellsOf_one fk
  have S_c2 : (cellsOf c2).toArray.size = 32 := by simp [cellsOf_len, L_c2]
  have O_c2 := cellsOf_one c2
  have S_ow : ow.toArray.size = 193 := by rw [List.size_toArray, L_ow]
  have S_bw : bw.toArray.size = 97 := by rw [List.size_toArray, L_bw]
  have S_bz : bz.toArray.size = 97 := by rw [List.size_toArray, L_bz]
  have hal : ∀ w, (zeroValue 23).run Tryd.prog w = .ok (.agg (cellsOf (List.replicate 32 0)).toArray) w := fun w => by rw [zeros32_cells]; exact key_alloc w
  have hal2 := apair_alloc
  have hal3 := own_alloc
  have hal4 := bundle_alloc
  have hbz := Lib.hid zero_built
  have L_zk : (List.replicate 32 (0 : UInt8)).length = 32 := rfl
  have L_zp : (List.replicate 64 (0 : UInt8)).length = 64 := by simp
  have L_zo : (bbC (List.replicate 192 0) false).length = 193 := by rw [bbC_len]; simp
  have L_zb : (bbC (List.replicate 96 0) false).length = 97 := by rw [bbC_len]; simp
  generalize bbC (List.replicate 192 0) false = zo at *
  generalize bbC (List.replicate 96 0) false = zb at *
  generalize List.replicate 32 (0 : UInt8) = zk at *
  generalize List.replicate 64 (0 : UInt8) = zp at *
  have S_zk : (cellsOf zk).toArray.size = 32 := by simp [cellsOf_len, L_zk]
  have O_zk := cellsOf_one zk
  have S_zp : (cellsOf zp).toArray.size = 64 := by simp [cellsOf_len, L_zp]
  have O_zp := cellsOf_one zp
  have S_zo : zo.toArray.size = 193 := by rw [List.size_toArray, L_zo]
  have S_zb : zb.toArray.size = 97 := by rw [List.size_toArray, L_zb]
  obtain ⟨go, hgo⟩ : ∃ g, g = w.heap.size := ⟨_, rfl⟩
  obtain ⟨gi, hgi⟩ : ∃ g, g = go + 1 := ⟨_, rfl⟩
  obtain ⟨gf, hgf⟩ : ∃ g, g = gi + 1 := ⟨_, rfl⟩
  have B0 : Hid (Cb (((w.alloc (Obj.cells ow.toArray 34)).alloc (Obj.cells (cellsOf ik).toArray 23)).alloc (Obj.cells (cellsOf fk).toArray 23)) go 34 ow ∧ Ky (((w.alloc (Obj.cells ow.toArray 34)).alloc (Obj.cells (cellsOf ik).toArray 23)).alloc (Obj.cells (cellsOf fk).toArray 23)) gi ik ∧ Ky (((w.alloc (Obj.cells ow.toArray 34)).alloc (Obj.cells (cellsOf ik).toArray 23)).alloc (Obj.cells (cellsOf fk).toArray 23)) gf fk ∧ Ext w (((w.alloc (Obj.cells ow.toArray 34)).alloc (Obj.cells (cellsOf ik).toArray 23)).alloc (Obj.cells (cellsOf fk).toArray 23))) := by
    subst hgf
    subst hgi
    rw [hgo]
    exact ⟨heap_alloc30 _ _ _ _, ⟨heap_alloc31 _ _ _ _, L_ik⟩, ⟨heap_alloc32 _ _ _ _, L_fk⟩, (((Ext.refl w).alloc _).alloc _).alloc _⟩
  go_enter Tryd.func4, Tryd.ntmps4
  go_upto_region 1 with fail
  refine wp_gen (fun W => Cb W go 34 ow ∧ Ky W gi ik ∧ Ky W gf fk ∧ Ext w W) B0.out ?_
  rw [← hgo, ← hgi, ← hgf]
  clear B0
  replace hgo := Lib.hid hgo
  replace hgi := Lib.hid hgi
  replace hgf := Lib.hid hgf
  rintro w0 ⟨q_o, q_i, q_f, q_x⟩
  have Q0 : Hid (∀ s, Ext w0 s → Cb s go 34 ow ∧ Ky s gi ik ∧ Ky s gf fk ∧ Ext w s) := fun s e => ⟨q_o.ext e, q_i.ext e, q_f.ext e, q_x.trans e⟩
  clear q_o q_i q_f q_x
  go_wp2_with fail
  refine (AW.out _ ((Q0.out _ (Ext.refl _)).2.2.2)).mono ?_
  rintro e w1 ⟨rfl, e1⟩
  have Q1 : Hid (∀ s, Ext w1 s → Cb s go 34 ow ∧ Ky s gi ik ∧ Ky s gf fk ∧ Ext w s) := fun s e => Q0.out s (e1.trans e)
  clear Q0 e1
  obtain ⟨gl, hgl⟩ : ∃ g, g = w1.heap.size := ⟨_, rfl⟩
  have own3 : Hid (OwnC gl (w1.alloc (Obj.cells (cellsOf (ob ++ ik) ++ (cellsOf (oa ++ fk) ++ cellsOf (ob ++ fk))).toArray 36)) 36 96 (some ⟨gl, 0, none⟩) 3 3 ([ob ++ ik, oa ++ fk, ob ++ fk].map cellsOf)) :=
    OwnC.lit (L := [ob ++ ik, oa ++ fk, ob ++ fk].map cellsOf) (fun x hx => by
      simp only [List.map_cons, List.map_nil, List.mem_cons, List.not_mem_nil, or_false] at hx
      rcases hx with rfl | rfl | rfl
      · exact C_ea
      · exact C_eb
      · exact C_ec) (by simp) (by simp) (Nat.le_refl _) (by
        have q_ := heap_alloc_new w1 (Obj.cells (cellsOf (ob ++ ik) ++ (cellsOf (oa ++ fk) ++ cellsOf (ob ++ fk))).toArray 36)
        rw [hgl]
        simpa using q_)
  have m1 : Hid (Ext w1 (w1.alloc (Obj.cells (cellsOf (ob ++ ik) ++ (cellsOf (oa ++ fk) ++ cellsOf (ob ++ fk))).toArray 36))) := (Ext.refl _).alloc _
  have lgl : gl = w1.heap.size := hgl
  replace hgl := Lib.hid hgl
  have nof : gf < gl := by rw [lgl]; exact heap_lt ((Q1.out _ (Ext.refl _)).2.2.1).1
  have wgl : w.heap.size ≤ gl := by rw [lgl]; exact ((Q1.out _ (Ext.refl _)).2.2.2).size
  replace lgl := Lib.hid lgl
  go_upto_region 3 with (first
    | (refine wpList_load_mid rfl (g := go) (off := 0) (ys := cellsOf oa) rfl rfl (P_oa.out _ _ _ ((Q1.out _ (Ext.refl _)).1)) rfl rfl (by rw [C_oa]; rfl) ?_; simp only [Act.put, List.setIfInBounds_toArray, List.set_cons_zero, List.set_cons_succ])
    | (refine wpList_load_mid rfl (g := go) (off := 64) (ys := cellsOf ob) rfl rfl (P_ob.out _ _ _ ((Q1.out _ (Ext.refl _)).1)) rfl rfl (by rw [C_ob]; rfl) ?_; simp only [Act.put, List.setIfInBounds_toArray, List.set_cons_zero, List.set_cons_succ])
    | (refine wpList_load_row rfl 23 _ rfl gi rfl 23 (cellsOf ik).toArray (0, 0) _ ((Q1.out _ (Ext.refl _)).2.1).1 rfl rfl (by rw [S_ik]; rfl) ?_; simp only [Act.put, List.setIfInBounds_toArray, List.set_cons_zero, List.set_cons_succ])
    | (refine wpList_load_row rfl 23 _ rfl gf rfl 23 (cellsOf fk).toArray (0, 0) _ ((Q1.out _ (Ext.refl _)).2.2.1).1 rfl rfl (by rw [S_fk]; rfl) ?_; simp only [Act.put, List.setIfInBounds_toArray, List.set_cons_zero, List.set_cons_succ])
    | (refine wpList_build_as rfl _ _ rfl (cellsOf (ob ++ ik)).toArray (by simp only [List.map_toArray, List.map_cons, List.map_nil]; exact B_ea.out) ?_; simp only [Act.put, List.setIfInBounds_toArray, List.set_cons_zero, List.set_cons_succ])
    | (refine wpList_build_as rfl _ _ rfl (cellsOf (oa ++ fk)).toArray (by simp only [List.map_toArray, List.map_cons, List.map_nil]; exact B_eb.out) ?_; simp only [Act.put, List.setIfInBounds_toArray, List.set_cons_zero, List.set_cons_succ])
    | (refine wpList_build_as rfl _ _ rfl (cellsOf (ob ++ fk)).toArray (by simp only [List.map_toArray, List.map_cons, List.map_nil]; exact B_ec.out) ?_; simp only [Act.put, List.setIfInBounds_toArray, List.set_cons_zero, List.set_cons_succ])
    | (refine wpList_slice_c3 rfl Tryd.underlying37 hinf.out S96 (by omega) (by omega) C_ea C_eb C_ec (g := gl) lgl.out.symm rfl rfl rfl rfl ?_; simp only [Act.put, List.setIfInBounds_toArray, List.set_cons_zero, List.set_cons_succ]))
  refine wp_gen (fun W => OwnC gl W 36 96 (some ⟨gl, 0, none⟩) 3 3 ([ob ++ ik, oa ++ fk, ob ++ fk].map cellsOf) ∧ Cb W go 34 ow ∧ Ky W gi ik ∧ Ky W gf fk ∧ Ext w W) ⟨own3.out, Q1.out _ m1.out⟩ ?_
  clear own3 m1 hgl lgl Q1
  rintro w2 ⟨q_l, q_o, q_i, q_f, q_x⟩
  have Q2 : Hid (∀ s, Ext w2 s → OwnC gl s 36 96 (some ⟨gl, 0, none⟩) 3 3 ([ob ++ ik, oa ++ fk, ob ++ fk].map cellsOf) ∧ Cb s go 34 ow ∧ Ky s gi ik ∧ Ky s gf fk ∧ Ext w s) := fun s e => ⟨q_l.ext e, q_o.ext e, q_i.ext e, q_f.ext e, q_x.trans e⟩
  clear q_l q_o q_i q_f q_x
  have a1_ : Hid ((w2.alloc (Obj.cells zb.toArray 27)).heap[w2.heap.size]? = some (.cells zb.toArray 27 (0, 0))) := heap_alloc_new _ _
  have E_ : Ext w2 ((w2.alloc (Obj.cells zb.toArray 27)).setRow w2.heap.size bz.toArray) := below_setRow ((Ext.refl _).alloc _) (Nat.le_refl _) _
  go_upto_region 4 with (first
    | (refine wpList_load_mid rfl (g := go) (off := 32) (ys := cellsOf a2) rfl rfl (P_a2.out _ _ _ ((Q2.out _ (Ext.refl _)).2.1)) rfl rfl (by rw [C_a2]; rfl) ?_; simp only [Act.put, List.setIfInBounds_toArray, List.set_cons_zero, List.set_cons_succ])
    | (refine wpList_load_mid rfl (g := go) (off := 96) (ys := cellsOf b2) rfl rfl (P_b2.out _ _ _ ((Q2.out _ (Ext.refl _)).2.1)) rfl rfl (by rw [C_b2]; rfl) ?_; simp only [Act.put, List.setIfInBounds_toArray, List.set_cons_zero, List.set_cons_succ])
    | (refine wpList_build_as rfl _ _ rfl bz.toArray (by simp only [List.map_toArray, List.map_cons, List.map_nil]; exact B2.out) ?_; simp only [Act.put, List.setIfInBounds_toArray, List.set_cons_zero, List.set_cons_succ])
    | (refine wpList_store_row rfl 27 _ _ rfl w2.heap.size bz.toArray rfl rfl 27 _ a1_.out (by rw [S_bz]; rfl) (by rw [S_bz, S_zb]) O_bz.out ?_; simp only [Act.put]))
  obtain ⟨gw, hg_⟩ : ∃ g, g = w2.heap.size := ⟨_, rfl⟩
  have ngw : gl < gw := by
    have q_ := ((Q2.out _ (Ext.refl _)).1)
    obtain ⟨b_, hb1, hb2, _, _⟩ := q_.cells (by omega)
    cases hb1
    rw [hg_]
    exact hb2
  refine wp_gen (fun W => Cb W gw 27 bz ∧ OwnC gl W 36 96 (some ⟨gl, 0, none⟩) 3 3 ([ob ++ ik, oa ++ fk, ob ++ fk].map cellsOf) ∧ Cb W go 34 ow ∧ Ky W gi ik ∧ Ky W gf fk ∧ Ext w W) ⟨by rw [hg_]; exact setRow_heap _ _ _ _ _ _ a1_.out, Q2.out _ E_⟩ ?_
  rw [← hg_]
  clear hg_ a1_ E_ Q2
  rintro w3 ⟨q_b, q_l, q_o, q_i, q_f, q_x⟩
  have Q3 : Hid (∀ s, Ext w3 s → Cb s gw 27 bz ∧ OwnC gl s 36 96 (some ⟨gl, 0, none⟩) 3 3 ([ob ++ ik, oa ++ fk, ob ++ fk].map cellsOf) ∧ Cb s go 34 ow ∧ Ky s gi ik ∧ Ky s gf fk ∧ Ext w s) := fun s e => ⟨q_b.ext e, q_l.ext e, q_o.ext e, q_i.ext e, q_f.ext e, q_x.trans e⟩
  clear q_b q_l q_o q_i q_f q_x
  have bc_ := ((Q3.out _ (Ext.refl _)).2.2.1).cell P_fl.out
  clear P_fl P_a2 P_b2 P_oa P_ob B2 B_ea B_eb B_ec AW
  cases h with
  | false =>
    have hbw := FH.out rfl
    have X3 : Hid (∀ s, Ext w3 s → Xs s (some ⟨gl, 0, none⟩) 3 3 LL) := fun s e => by
      rw [LF.out rfl]
      exact agXs (((Q3.out _ e).2.1)) (fun x hx => by
        simp only [List.mem_cons, List.not_mem_nil, or_false] at hx
        rcases hx with rfl | rfl | rfl
        · exact L_ea
        · exact L_eb
        · exact L_ec) (by omega)
    have QN : Hid (∀ s, Ext w3 s → Xs s (some ⟨gl, 0, none⟩) 3 3 LL ∧ Cb s gw 27 bw ∧ Cb s go 34 ow ∧ Ky s gi ik ∧ Ky s gf fk ∧ Ext w s) := fun s e => ⟨X3.out s e, by rw [hbw]; exact ((Q3.out _ e).1), ((Q3.out _ e).2.2.1), ((Q3.out _ e).2.2.2.1), ((Q3.out _ e).2.2.2.2.1), ((Q3.out _ e).2.2.2.2.2)⟩
    clear X3 Q3 hbw FH TH LF LT B_ed hinf hzs P_oc P_c2 PUT SET BZe
    have Q3 := QN
    clear QN
    go_wp2_with (first
      | (refine wpList_load_rowW rfl 34 _ rfl go rfl 34 ow.toArray (0, 0) _ ((Q3.out _ (Ext.refl _)).2.2.1) rfl rfl (by rw [S_ow]; rfl) ?_; simp only [Act.put, List.setIfInBounds_toArray, List.set_cons_zero, List.set_cons_succ])
      | (refine wpList_load_rowW rfl 23 _ rfl gi rfl 23 (cellsOf ik).toArray (0, 0) _ ((Q3.out _ (Ext.refl _)).2.2.2.1).1 rfl rfl (by rw [S_ik]; rfl) ?_; simp only [Act.put, List.setIfInBounds_toArray, List.set_cons_zero, List.set_cons_succ])
      | (refine wpList_load_rowW rfl 23 _ rfl gf rfl 23 (cellsOf fk).toArray (0, 0) _ ((Q3.out _ (Ext.refl _)).2.2.2.2.1).1 rfl rfl (by rw [S_fk]; rfl) ?_; simp only [Act.put, List.setIfInBounds_toArray, List.set_cons_zero, List.set_cons_succ]))
    refine (AN.out _ ((Q3.out _ (Ext.refl _)).2.2.2.2.2)).mono ?_
    rintro e u_ ⟨rfl, e1⟩
    have a1 : Hid ((u_.alloc (Obj.cells (cellsOf zk).toArray 23)).heap[u_.heap.size]? = some (.cells (cellsOf zk).toArray 23 (0, 0))) := heap_alloc_new _ _
    have E_ : Ext w3 ((u_.alloc (Obj.cells (cellsOf zk).toArray 23)).setRow u_.heap.size (cellsOf kv).toArray) := e1.trans (below_setRow ((Ext.refl u_).alloc _) (Nat.le_refl _) _)
    go_upto_region 9 with (refine wpList_store_row rfl 23 _ _ rfl u_.heap.size (cellsOf kv).toArray rfl rfl 23 _ a1.out (by rw [S_kv]; rfl) (by rw [S_kv, S_zk]) O_kv ?_; simp only [Act.put])
    obtain ⟨gk, hg_⟩ : ∃ g, g = u_.heap.size := ⟨_, rfl⟩
    refine wp_gen (fun W => Ky W gk kv ∧ Xs W (some ⟨gl, 0, none⟩) 3 3 LL ∧ Cb W gw 27 bw ∧ Cb W go 34 ow ∧ Ky W gi ik ∧ Ky W gf fk ∧ Ext w W) ⟨⟨by rw [hg_]; exact setRow_heap _ _ _ _ _ _ a1.out, L_kv⟩, Q3.out _ E_⟩ ?_
    rw [← hg_]
    clear hg_ a1 E_ e1 Q3
    rintro w4 ⟨q_k, q_l, q_b, q_o, q_i, q_f, q_x⟩
    have Q4 : Hid (∀ s, Ext w4 s → Ky s gk kv ∧ Xs s (some ⟨gl, 0, none⟩) 3 3 LL ∧ Cb s gw 27 bw ∧ Cb s go 34 ow ∧ Ky s gi ik ∧ Ky s gf fk ∧ Ext w s) := fun s e => ⟨q_k.ext e, q_l.ext e, q_b.ext e, q_o.ext e, q_i.ext e, q_f.ext e, q_x.trans e⟩
    clear q_k q_l q_b q_o q_i q_f q_x
    go_wp2_with fail
    refine (ROk.out _ _ _ _ ((Q4.out _ (Ext.refl _)).2.1) (by omega)).mono ?_
    rintro e u_ ⟨rfl, e1⟩
    have a1 : Hid ((u_.alloc (Obj.cells (cellsOf zk).toArray 23)).heap[u_.heap.size]? = some (.cells (cellsOf zk).toArray 23 (0, 0))) := heap_alloc_new _ _
    have E_ : Ext w4 ((u_.alloc (Obj.cells (cellsOf zk).toArray 23)).setRow u_.heap.size (cellsOf kv).toArray) := e1.trans (below_setRow ((Ext.refl u_).alloc _) (Nat.le_refl _) _)
    go_upto_region 10 with (refine wpList_store_row rfl 23 _ _ rfl u_.heap.size (cellsOf kv).toArray rfl rfl 23 _ a1.out (by rw [S_kv]; rfl) (by rw [S_kv, S_zk]) O_kv ?_; simp only [Act.put])
    obtain ⟨gm, hg_⟩ : ∃ g, g = u_.heap.size := ⟨_, rfl⟩
    refine wp_gen (fun W => Ky W gm kv ∧ Ky W gk kv ∧ Xs W (some ⟨gl, 0, none⟩) 3 3 LL ∧ Cb W gw 27 bw ∧ Cb W go 34 ow ∧ Ky W gi ik ∧ Ky W gf fk ∧ Ext w W) ⟨⟨by rw [hg_]; exact setRow_heap _ _ _ _ _ _ a1.out, L_kv⟩, Q4.out _ E_⟩ ?_
    rw [← hg_]
    clear hg_ a1 E_ e1 Q4
    rintro w5 ⟨q_m, q_k, q_l, q_b, q_o, q_i, q_f, q_x⟩
    have Q5 : Hid (∀ s, Ext w5 s → Ky s gm kv ∧ Ky s gk kv ∧ Xs s (some ⟨gl, 0, none⟩) 3 3 LL ∧ Cb s gw 27 bw ∧ Cb s go 34 ow ∧ Ky s gi ik ∧ Ky s gf fk ∧ Ext w s) := fun s e => ⟨q_m.ext e, q_k.ext e, q_l.ext e, q_b.ext e, q_o.ext e, q_i.ext e, q_f.ext e, q_x.trans e⟩
    clear q_m q_k q_l q_b q_o q_i q_f q_x
    refine wp_region_seq (R := Ext) Ext.refl (fun _ _ _ => Ext.trans) [0, 1, 2, 3, 4, 5, 6, 7, 8, 9, 10, 11, 12, 14, 13, 15, 16, 17] [13] [(0, 62, 256), (1, 63, 4611686018427387904), (2, 64, 9223372036854777856), (2, 65, 9223372036854784000), (14, 66, 64563604257983430656), (18, 67, 83010348331692982272), (34, 68, 147573952589676412928), (64, 69, 295147905179352829952), (64, 70, 295147905179352842240), (448, 71, 2066035336255469780992), (576, 72, 2656331146614175432704), (1088, 73, 4722366482869645213696), (2048, 74, 9444732965739290427408), (6144, 75, 28334198897217871282176), (2048, 76, 9444732965739290428416), (26624, 77, 122781528554610775556096), (34816, 78, 160560460417567937265664), (131071, 7, 302231454903657293676544)] (by kernel_rfl) (by kernel_rfl) (by kernel_rfl) rfl (by kernel_rfl) (by kernel_rfl) (fun _ _ d _ _ h => by cases d <;> exact h) ?_
    iterate 2 (first | (refine seq_read (fun _ => True) (fun _ _ => trivial) _ (v := ?_) rfl rfl (by rfl) ?_ ?_; rotate_left; (· intro w' hF; go_simp; (try with_reducible rfl)); simp only [Act.put, List.setIfInBounds_toArray, List.set_cons_zero, List.set_cons_succ]) | (refine seq_skip _ rfl rfl (by rfl) ?_; simp only [Act.put, List.setIfInBounds_toArray, List.set_cons_zero, List.set_cons_succ]))
    refine seq_read (fun w' => w'.heap[gk]? = some (.cells (cellsOf kv).toArray 23 (0, 0))) (fun w' e => ((Q5.out w' ((Ext.refl w5).drew.trans e)).2.1).1) _ (v := .agg (cellsOf kv).toArray) rfl rfl (by rfl) (fun w' hF => exec_load_row rfl rfl hF rfl rfl (by rw [S_kv]; rfl)) ?_
    simp only [Act.put, List.setIfInBounds_toArray, List.set_cons_zero, List.set_cons_succ]
    refine seq_read (fun w' => w'.heap[gm]? = some (.cells (cellsOf kv).toArray 23 (0, 0))) (fun w' e => ((Q5.out w' ((Ext.refl w5).drew.trans e)).1).1) _ (v := .agg (cellsOf kv).toArray) rfl rfl (by rfl) (fun w' hF => exec_load_row rfl rfl hF rfl rfl (by rw [S_kv]; rfl)) ?_
    simp only [Act.put, List.setIfInBounds_toArray, List.set_cons_zero, List.set_cons_succ]
    refine seq_read (fun _ => True) (fun _ _ => trivial) _ (v := .bool true) rfl rfl (by rfl) (fun w' _ => exec_eql_keyB (xs := kv) (ys := kv) (decide_eq_true rfl) L_kv L_kv rfl rfl rfl) ?_
    simp only [Act.put, List.setIfInBounds_toArray, List.set_cons_zero, List.set_cons_succ]
    iterate 7 (first | (refine seq_read (fun _ => True) (fun _ _ => trivial) _ (v := ?_) rfl rfl (by rfl) ?_ ?_; rotate_left; (· intro w' hF; go_simp; (try with_reducible rfl)); simp only [Act.put, List.setIfInBounds_toArray, List.set_cons_zero, List.set_cons_succ]) | (refine seq_skip _ rfl rfl (by rfl) ?_; simp only [Act.put, List.setIfInBounds_toArray, List.set_cons_zero, List.set_cons_succ]))
    refine seq_read (fun w' => w'.heap[go]? = some (.cells ow.toArray 34 (0, 0))) (fun w' e => ((Q5.out w' ((Ext.refl w5).drew.trans e)).2.2.2.2.1)) _ (v := .agg ow.toArray) rfl rfl (by rfl) (fun w' hF => exec_load_row rfl rfl hF rfl rfl (by rw [S_ow]; rfl)) ?_
    simp only [Act.put, List.setIfInBounds_toArray, List.set_cons_zero, List.set_cons_succ]
    refine seq_read (fun w' => w'.heap[gw]? = some (.cells bw.toArray 27 (0, 0))) (fun w' e => ((Q5.out w' ((Ext.refl w5).drew.trans e)).2.2.2.1)) _ (v := .agg bw.toArray) rfl rfl (by rfl) (fun w' hF => exec_load_row rfl rfl hF rfl rfl (by rw [S_bw]; rfl)) ?_
    simp only [Act.put, List.setIfInBounds_toArray, List.set_cons_zero, List.set_cons_succ]
    refine seq_do _ rfl rfl (by rfl) (fun K1 hK1 => ?_)
    go_simp
    refine (BU.out _).mono ?_
    rintro e0 WE ⟨rfl, e1⟩
    have xE := Lib.hid (((Q5.out _ (Ext.refl _)).2.2.2.2.2.2.2).trans (Ext.trans (Ext.refl w5).drew e1))
    refine hK1.out _ _ e1 ?_
    clear hK1 K1
    try simp only [Act.put, List.setIfInBounds_toArray, List.set_cons_zero, List.set_cons_succ]
    refine seq_read (fun _ => True) (fun _ _ => trivial) _ (v := .bool true) rfl rfl (by rfl) (fun w' _ => exec_eql_bun hBN.out rfl rfl rfl) ?_
    simp only [Act.put, List.setIfInBounds_toArray, List.set_cons_zero, List.set_cons_succ]
    repeat (first | (refine seq_read (fun _ => True) (fun _ _ => trivial) _ (v := ?_) rfl rfl (by rfl) ?_ ?_; rotate_left; (· intro w' hF; go_simp; (try with_reducible rfl)); simp only [Act.put, List.setIfInBounds_toArray, List.set_cons_zero, List.set_cons_succ]) | (refine seq_skip _ rfl rfl (by rfl) ?_; simp only [Act.put, List.setIfInBounds_toArray, List.set_cons_zero, List.set_cons_succ]))
    refine seq_done ?_
    go_wp2_with fail
    go_ret
    exact ⟨rfl, xE.out⟩
  | true =>
    have n1 : Hid ((w3.alloc (Obj.cells (cellsOf (oc ++ fk)).toArray 36)).heap[w3.heap.size]? = some (.cells (cellsOf (oc ++ fk)).toArray 36 (0, 0))) := heap_alloc_new _ _
    have o2 := Lib.hid (((Q3.out _ ((Ext.refl w3).alloc (Obj.cells (cellsOf (oc ++ fk)).toArray 36))).2.1))
    have z2 : Hid (gl ≤ (w3.alloc (Obj.cells (cellsOf (oc ++ fk)).toArray 36)).heap.size) := by
      unfold Hid
      rw [size_alloc]
      have := heap_lt (((Q3.out _ (Ext.refl _)).1))
      omega
    have one := one_mem (oc ++ fk)
    go_upto_region 6 with (first
      | (refine wpList_load_mid rfl (g := go) (off := 128) (ys := cellsOf oc) rfl rfl (P_oc.out _ _ _ ((Q3.out _ (Ext.refl _)).2.2.1)) rfl rfl (by rw [C_oc]; rfl) ?_; simp only [Act.put, List.setIfInBounds_toArray, List.set_cons_zero, List.set_cons_succ])
      | (refine wpList_load_rowW rfl 23 _ rfl gf rfl 23 (cellsOf fk).toArray (0, 0) _ ((Q3.out _ (Ext.refl _)).2.2.2.2.1).1 rfl rfl (by rw [S_fk]; rfl) ?_; simp only [Act.put, List.setIfInBounds_toArray, List.set_cons_zero, List.set_cons_succ])
      | (refine wpList_build_as rfl _ _ rfl (cellsOf (oc ++ fk)).toArray (by simp only [List.map_toArray, List.map_cons, List.map_nil]; exact B_ed.out) ?_; simp only [Act.put, List.setIfInBounds_toArray, List.set_cons_zero, List.set_cons_succ])
      | (refine wpList_slice_c rfl Tryd.underlying37 hinf.out S96 (by omega) (by omega) C_ed (g := w3.heap.size) rfl rfl rfl ?_; simp only [Act.put, List.setIfInBounds_toArray, List.set_cons_zero, List.set_cons_succ])
      | (at_builtin; (with_reducible refine wpList_append_c rfl Tryd.underlying37 hinf.out hzs.out (by omega) (by omega) (x := .tmp 37) (y := .tmp 42) rfl rfl rfl o2.out n1.out C_ed one (by omega) z2.out ?_); intro A3 c3 w_ o3 g3 b3; replace o3 := Lib.hid o3; replace g3 := Lib.hid g3; replace b3 := Lib.hid b3; simp only [Act.put, List.setIfInBounds_toArray, List.set_cons_zero, List.set_cons_succ]))
    have g4 := g3.out
    have kp : Hid (OwnC gl w_ 36 96 A3 (3 + 1) c3 ([ob ++ ik, oa ++ fk, ob ++ fk, oc ++ fk].map cellsOf) ∧ Cb w_ gw 27 bz ∧ Cb w_ go 34 ow ∧ Ky w_ gi ik ∧ Ky w_ gf fk ∧ Ext w w_) := by
      refine ⟨by simpa using o3.out, grown_keep9 g4 (Nat.ne_of_gt ngw) ((Q3.out _ ((Ext.refl w3).alloc (Obj.cells (cellsOf (oc ++ fk)).toArray 36))).1), (b3.out.block _ (by have := hgi.out; have := hgf.out; omega)).trans ((Q3.out _ ((Ext.refl w3).alloc (Obj.cells (cellsOf (oc ++ fk)).toArray 36))).2.2.1), ⟨(b3.out.block _ (by have := hgf.out; omega)).trans ((Q3.out _ ((Ext.refl w3).alloc (Obj.cells (cellsOf (oc ++ fk)).toArray 36))).2.2.2.1).1, L_ik⟩, ⟨(b3.out.block _ nof).trans ((Q3.out _ ((Ext.refl w3).alloc (Obj.cells (cellsOf (oc ++ fk)).toArray 36))).2.2.2.2.1).1, L_fk⟩, Below.trans (((Q3.out _ ((Ext.refl w3).alloc (Obj.cells (cellsOf (oc ++ fk)).toArray 36))).2.2.2.2.2)) (b3.out.mono wgl)⟩
    refine wp_gen (fun W => OwnC gl W 36 96 A3 (3 + 1) c3 ([ob ++ ik, oa ++ fk, ob ++ fk, oc ++ fk].map cellsOf) ∧ Cb W gw 27 bz ∧ Cb W go 34 ow ∧ Ky W gi ik ∧ Ky W gf fk ∧ Ext w W) kp.out ?_
    clear kp g4 g3 o3 b3 n1 o2 z2 one Q3
    rintro w4 ⟨q_l, q_b, q_o, q_i, q_f, q_x⟩
    have Q4 : Hid (∀ s, Ext w4 s → OwnC gl s 36 96 A3 (3 + 1) c3 ([ob ++ ik, oa ++ fk, ob ++ fk, oc ++ fk].map cellsOf) ∧ Cb s gw 27 bz ∧ Cb s go 34 ow ∧ Ky s gi ik ∧ Ky s gf fk ∧ Ext w s) := fun s e => ⟨q_l.ext e, q_b.ext e, q_o.ext e, q_i.ext e, q_f.ext e, q_x.trans e⟩
    clear q_l q_b q_o q_i q_f q_x
    have ll := ((Q4.out _ (Ext.refl _)).1)
    have bb := ((Q4.out _ (Ext.refl _)).2.1)
    have th : Hid (w4.there gw 64 32) := bb.there (by rw [L_bz]; omega)
    have t1 := PUT.out _ _ _ bb
    have gr1 : w4.grownBy (w4.setCells gw 64 (cellsOf c2)) (some gw) := grown_setCells
    have fz := t1.frozen 96
    have bcl := t1.cell (j := 96) (v := .bool false) (by rw [List.getElem?_append_right (by simp [cellsOf_len, la2, lb2, lc2])]; simp [cellsOf_len, la2, lb2, lc2])
    have t2 := t1.setCell (o := 96) (v := .bool true)
    rw [SET.out, ← TH.out rfl] at t2
    have gr2 : (w4.setCells gw 64 (cellsOf c2)).grownBy ((w4.setCells gw 64 (cellsOf c2)).setCell ⟨gw, 96, none⟩ (.bool true)) (some gw) := grown_setCell9
    have gr := grown_trans' gr1 gr2
    have ne : Value.ownBlock (.slice A3 (3 + 1) c3) ≠ some gw := ll.ne bb (by decide)
    have lx := ll.kept gr (.inr ne)
    have X4 := agXs (L := [ob ++ ik, oa ++ fk, ob ++ fk, oc ++ fk]) lx (fun x hx => by
        simp only [List.mem_cons, List.not_mem_nil, or_false] at hx
        rcases hx with rfl | rfl | rfl | rfl
        · exact L_ea
        · exact L_eb
        · exact L_ec
        · exact L_ed) (by omega)
    have kp : Hid (Xs ((w4.setCells gw 64 (cellsOf c2)).setCell ⟨gw, 96, none⟩ (.bool true)) A3 (3 + 1) c3 LL ∧ Cb ((w4.setCells gw 64 (cellsOf c2)).setCell ⟨gw, 96, none⟩ (.bool true)) gw 27 bw ∧ Cb ((w4.setCells gw 64 (cellsOf c2)).setCell ⟨gw, 96, none⟩ (.bool true)) go 34 ow ∧ Ky ((w4.setCells gw 64 (cellsOf c2)).setCell ⟨gw, 96, none⟩ (.bool true)) gi ik ∧ Ky ((w4.setCells gw 64 (cellsOf c2)).setCell ⟨gw, 96, none⟩ (.bool true)) gf fk ∧ Ext w ((w4.setCells gw 64 (cellsOf c2)).setCell ⟨gw, 96, none⟩ (.bool true))) := by
      refine ⟨by rw [LT.out rfl]; exact X4, t2, (grown_keep9 gr (by have := hgi.out; have := hgf.out; omega) ((Q4.out _ (Ext.refl _)).2.2.1)), ⟨grown_keep9 gr (by have := hgf.out; omega) ((Q4.out _ (Ext.refl _)).2.2.2.1).1, L_ik⟩, ⟨grown_keep9 gr (by omega) ((Q4.out _ (Ext.refl _)).2.2.2.2.1).1, L_fk⟩, ext_grown9 ((Q4.out _ (Ext.refl _)).2.2.2.2.2) gr (by omega)⟩
    clear ll bb t1 t2 gr1 gr2 gr ne lx X4
    have c2_ := Lib.hid (P_c2.out _ _ _ ((Q4.out _ (Ext.refl _)).2.2.1))
    go_upto_region 7 with (first
      | (refine wpList_load_mid rfl (g := go) (off := 160) (ys := cellsOf c2) rfl rfl c2_.out rfl rfl (by rw [C_c2]; rfl) ?_; simp only [Act.put, List.setIfInBounds_toArray, List.set_cons_zero, List.set_cons_succ])
      | (refine wpList_store_mid rfl 23 _ _ rfl gw 64 (cellsOf c2).toArray rfl rfl (by rw [S_c2]; exact th.out) (by rw [S_c2]; rfl) O_c2 ?_; simp only [Act.put]))
    go_upto_region 8 with fail
    refine wp_gen (fun W => Xs W A3 (3 + 1) c3 LL ∧ Cb W gw 27 bw ∧ Cb W go 34 ow ∧ Ky W gi ik ∧ Ky W gf fk ∧ Ext w W) kp.out ?_
    clear kp th fz bcl c2_ Q4 FH TH LF LT B_ed hinf hzs P_oc P_c2 PUT SET BZe
    rintro w5 ⟨q_l, q_b, q_o, q_i, q_f, q_x⟩
    have Q5 : Hid (∀ s, Ext w5 s → Xs s A3 (3 + 1) c3 LL ∧ Cb s gw 27 bw ∧ Cb s go 34 ow ∧ Ky s gi ik ∧ Ky s gf fk ∧ Ext w s) := fun s e => ⟨q_l.ext e, q_b.ext e, q_o.ext e, q_i.ext e, q_f.ext e, q_x.trans e⟩
    clear q_l q_b q_o q_i q_f q_x
    go_wp2_with (first
      | (refine wpList_load_rowW rfl 34 _ rfl go rfl 34 ow.toArray (0, 0) _ ((Q5.out _ (Ext.refl _)).2.2.1) rfl rfl (by rw [S_ow]; rfl) ?_; simp only [Act.put, List.setIfInBounds_toArray, List.set_cons_zero, List.set_cons_succ])
      | (refine wpList_load_rowW rfl 23 _ rfl gi rfl 23 (cellsOf ik).toArray (0, 0) _ ((Q5.out _ (Ext.refl _)).2.2.2.1).1 rfl rfl (by rw [S_ik]; rfl) ?_; simp only [Act.put, List.setIfInBounds_toArray, List.set_cons_zero, List.set_cons_succ])
      | (refine wpList_load_rowW rfl 23 _ rfl gf rfl 23 (cellsOf fk).toArray (0, 0) _ ((Q5.out _ (Ext.refl _)).2.2.2.2.1).1 rfl rfl (by rw [S_fk]; rfl) ?_; simp only [Act.put, List.setIfInBounds_toArray, List.set_cons_zero, List.set_cons_succ]))
    refine (AN.out _ ((Q5.out _ (Ext.refl _)).2.2.2.2.2)).mono ?_
    rintro e u_ ⟨rfl, e1⟩
    have a1 : Hid ((u_.alloc (Obj.cells (cellsOf zk).toArray 23)).heap[u_.heap.size]? = some (.cells (cellsOf zk).toArray 23 (0, 0))) := heap_alloc_new _ _
    have E_ : Ext w5 ((u_.alloc (Obj.cells (cellsOf zk).toArray 23)).setRow u_.heap.size (cellsOf kv).toArray) := e1.trans (below_setRow ((Ext.refl u_).alloc _) (Nat.le_refl _) _)
    go_upto_region 9 with (refine wpList_store_row rfl 23 _ _ rfl u_.heap.size (cellsOf kv).toArray rfl rfl 23 _ a1.out (by rw [S_kv]; rfl) (by rw [S_kv, S_zk]) O_kv ?_; simp only [Act.put])
    obtain ⟨gk, hg_⟩ : ∃ g, g = u_.heap.size := ⟨_, rfl⟩
    refine wp_gen (fun W => Ky W gk kv ∧ Xs W A3 (3 + 1) c3 LL ∧ Cb W gw 27 bw ∧ Cb W go 34 ow ∧ Ky W gi ik ∧ Ky W gf fk ∧ Ext w W) ⟨⟨by rw [hg_]; exact setRow_heap _ _ _ _ _ _ a1.out, L_kv⟩, Q5.out _ E_⟩ ?_
    rw [← hg_]
    clear hg_ a1 E_ e1 Q5
    rintro w6 ⟨q_k, q_l, q_b, q_o, q_i, q_f, q_x⟩
    have Q6 : Hid (∀ s, Ext w6 s → Ky s gk kv ∧ Xs s A3 (3 + 1) c3 LL ∧ Cb s gw 27 bw ∧ Cb s go 34 ow ∧ Ky s gi ik ∧ Ky s gf fk ∧ Ext w s) := fun s e => ⟨q_k.ext e, q_l.ext e, q_b.ext e, q_o.ext e, q_i.ext e, q_f.ext e, q_x.trans e⟩
    clear q_k q_l q_b q_o q_i q_f q_x
    go_wp2_with fail
    refine (ROk.out _ _ _ _ ((Q6.out _ (Ext.refl _)).2.1) (by omega)).mono ?_
    rintro e u_ ⟨rfl, e1⟩
    have a1 : Hid ((u_.alloc (Obj.cells (cellsOf zk).toArray 23)).heap[u_.heap.size]? = some (.cells (cellsOf zk).toArray 23 (0, 0))) := heap_alloc_new _ _
    have E_ : Ext w6 ((u_.alloc (Obj.cells (cellsOf zk).toArray 23)).setRow u_.heap.size (cellsOf kv).toArray) := e1.trans (below_setRow ((Ext.refl u_).alloc _) (Nat.le_refl _) _)
    go_upto_region 10 with (refine wpList_store_row rfl 23 _ _ rfl u_.heap.size (cellsOf kv).toArray rfl rfl 23 _ a1.out (by rw [S_kv]; rfl) (by rw [S_kv, S_zk]) O_kv ?_; simp only [Act.put])
    obtain ⟨gm, hg_⟩ : ∃ g, g = u_.heap.size := ⟨_, rfl⟩
    refine wp_gen (fun W => Ky W gm kv ∧ Ky W gk kv ∧ Xs W A3 (3 + 1) c3 LL ∧ Cb W gw 27 bw ∧ Cb W go 34 ow ∧ Ky W gi ik ∧ Ky W gf fk ∧ Ext w W) ⟨⟨by rw [hg_]; exact setRow_heap _ _ _ _ _ _ a1.out, L_kv⟩, Q6.out _ E_⟩ ?_
    rw [← hg_]
    clear hg_ a1 E_ e1 Q6
    rintro w7 ⟨q_m, q_k, q_l, q_b, q_o, q_i, q_f, q_x⟩
    have Q7 : Hid (∀ s, Ext w7 s → Ky s gm kv ∧ Ky s gk kv ∧ Xs s A3 (3 + 1) c3 LL ∧ Cb s gw 27 bw ∧ Cb s go 34 ow ∧ Ky s gi ik ∧ Ky s gf fk ∧ Ext w s) := fun s e => ⟨q_m.ext e, q_k.ext e, q_l.ext e, q_b.ext e, q_o.ext e, q_i.ext e, q_f.ext e, q_x.trans e⟩
    clear q_m q_k q_l q_b q_o q_i q_f q_x
    refine wp_region_seq (R := Ext) Ext.refl (fun _ _ _ => Ext.trans) [0, 1, 2, 3, 4, 5, 6, 7, 8, 9, 10, 11, 12, 14, 13, 15, 16, 17] [13] [(0, 62, 256), (1, 63, 4611686018427387904), (2, 64, 9223372036854777856), (2, 65, 9223372036854784000), (14, 66, 64563604257983430656), (18, 67, 83010348331692982272), (34, 68, 147573952589676412928), (64, 69, 295147905179352829952), (64, 70, 295147905179352842240), (448, 71, 2066035336255469780992), (576, 72, 2656331146614175432704), (1088, 73, 4722366482869645213696), (2048, 74, 9444732965739290427408), (6144, 75, 28334198897217871282176), (2048, 76, 9444732965739290428416), (26624, 77, 122781528554610775556096), (34816, 78, 160560460417567937265664), (131071, 7, 302231454903657293676544)] (by kernel_rfl) (by kernel_rfl) (by kernel_rfl) rfl (by kernel_rfl) (by kernel_rfl) (fun _ _ d _ _ h => by cases d <;> exact h) ?_
    iterate 2 (first | (refine seq_read (fun _ => True) (fun _ _ => trivial) _ (v := ?_) rfl rfl (by rfl) ?_ ?_; rotate_left; (· intro w' hF; go_simp; (try with_reducible rfl)); simp only [Act.put, List.setIfInBounds_toArray, List.set_cons_zero, List.set_cons_succ]) | (refine seq_skip _ rfl rfl (by rfl) ?_; simp only [Act.put, List.setIfInBounds_toArray, List.set_cons_zero, List.set_cons_succ]))
    refine seq_read (fun w' => w'.heap[gk]? = some (.cells (cellsOf kv).toArray 23 (0, 0))) (fun w' e => ((Q7.out w' ((Ext.refl w7).drew.trans e)).2.1).1) _ (v := .agg (cellsOf kv).toArray) rfl rfl (by rfl) (fun w' hF => exec_load_row rfl rfl hF rfl rfl (by rw [S_kv]; rfl)) ?_
    simp only [Act.put, List.setIfInBounds_toArray, List.set_cons_zero, List.set_cons_succ]
    refine seq_read (fun w' => w'.heap[gm]? = some (.cells (cellsOf kv).toArray 23 (0, 0))) (fun w' e => ((Q7.out w' ((Ext.refl w7).drew.trans e)).1).1) _ (v := .agg (cellsOf kv).toArray) rfl rfl (by rfl) (fun w' hF => exec_load_row rfl rfl hF rfl rfl (by rw [S_kv]; rfl)) ?_
    simp only [Act.put, List.setIfInBounds_toArray, List.set_cons_zero, List.set_cons_succ]
    refine seq_read (fun _ => True) (fun _ _ => trivial) _ (v := .bool true) rfl rfl (by rfl) (fun w' _ => exec_eql_keyB (xs := kv) (ys := kv) (decide_eq_true rfl) L_kv L_kv rfl rfl rfl) ?_
    simp only [Act.put, List.setIfInBounds_toArray, List.set_cons_zero, List.set_cons_succ]
    iterate 7 (first | (refine seq_read (fun _ => True) (fun _ _ => trivial) _ (v := ?_) rfl rfl (by rfl) ?_ ?_; rotate_left; (· intro w' hF; go_simp; (try with_reducible rfl)); simp only [Act.put, List.setIfInBounds_toArray, List.set_cons_zero, List.set_cons_succ]) | (refine seq_skip _ rfl rfl (by rfl) ?_; simp only [Act.put, List.setIfInBounds_toArray, List.set_cons_zero, List.set_cons_succ]))
    refine seq_read (fun w' => w'.heap[go]? = some (.cells ow.toArray 34 (0, 0))) (fun w' e => ((Q7.out w' ((Ext.refl w7).drew.trans e)).2.2.2.2.1)) _ (v := .agg ow.toArray) rfl rfl (by rfl) (fun w' hF => exec_load_row rfl rfl hF rfl rfl (by rw [S_ow]; rfl)) ?_
    simp only [Act.put, List.setIfInBounds_toArray, List.set_cons_zero, List.set_cons_succ]
    refine seq_read (fun w' => w'.heap[gw]? = some (.cells bw.toArray 27 (0, 0))) (fun w' e => ((Q7.out w' ((Ext.refl w7).drew.trans e)).2.2.2.1)) _ (v := .agg bw.toArray) rfl rfl (by rfl) (fun w' hF => exec_load_row rfl rfl hF rfl rfl (by rw [S_bw]; rfl)) ?_
    simp only [Act.put, List.setIfInBounds_toArray, List.set_cons_zero, List.set_cons_succ]
    refine seq_do _ rfl rfl (by rfl) (fun K1 hK1 => ?_)
    go_simp
    refine (BU.out _).mono ?_
    rintro e0 WE ⟨rfl, e1⟩
    have xE := Lib.hid (((Q7.out _ (Ext.refl _)).2.2.2.2.2.2.2).trans (Ext.trans (Ext.refl w7).drew e1))
    refine hK1.out _ _ e1 ?_
    clear hK1 K1
    try simp only [Act.put, List.setIfInBounds_toArray, List.set_cons_zero, List.set_cons_succ]
    refine seq_read (fun _ => True) (fun _ _ => trivial) _ (v := .bool true) rfl rfl (by rfl) (fun w' _ => exec_eql_bun hBN.out rfl rfl rfl) ?_
    simp only [Act.put, List.setIfInBounds_toArray, List.set_cons_zero, List.set_cons_succ]
    repeat (first | (refine seq_read (fun _ => True) (fun _ _ => trivial) _ (v := ?_) rfl rfl (by rfl) ?_ ?_; rotate_left; (· intro w' hF; go_simp; (try with_reducible rfl)); simp only [Act.put, List.setIfInBounds_toArray, List.set_cons_zero, List.set_cons_succ]) | (refine seq_skip _ rfl rfl (by rfl) ?_; simp only [Act.put, List.setIfInBounds_toArray, List.set_cons_zero, List.set_cons_succ]))
    refine seq_done ?_
    go_wp2_with fail
    go_ret
    exact ⟨rfl, xE.out⟩
end Go.Proofs.YtfhafednnnfmbaaDoor
