import Derived.Test.YtfhafednnnfmbaaDoorDrawn
import Derived.Test.YtfhafednnnfmbaaDoorPkJ
/-
  agree.Begin.
-/
namespace Go.Proofs.YtfhafednnnfmbaaDoor
open Go.ChangeShapes Go.WideShapes Go.ChangeAt Go.RowKit Go.Deep
set_option maxRecDepth 100000

theorem agXs {w : World} {e : TypeId} {A : Option Addr} {n c : Nat} {L : List (List UInt8)} {B : Nat} (h : OwnC B w e 96 A n c (L.map cellsOf)) (h96 : ∀ x ∈ L, x.length = 96) (h0 : 0 < n) : Xs w A n c L := by
  have hl : L.length = n := by simpa using h.2.2
  refine ⟨hl, h.cap.1, h.cap.2, h96, fun _ => ?_⟩
  obtain ⟨b, hA, hb, _, hc⟩ := h.cells h0
  refine ⟨b, hA, hb, fun j i v hj hv => hc _ _ ?_⟩
  have hi : i < 96 := by
    have := (List.getElem?_eq_some_iff.1 hv).1
    rw [cellsOf_len] at this
    have hx : (L.getD j []).length = 96 := by
      have hj' : j < L.length := by omega
      have : L.getD j [] = L[j] := by simp [List.getD, hj']
      rw [this]; exact h96 _ (List.getElem_mem hj')
    omega
  rw [flat_at h.2.1 (by simp; omega) hi]
  have hj' : j < L.length := by omega
  have e1 : (L.map cellsOf).getD j [] = cellsOf (L.getD j []) := by simp [List.getD, hj']
  rw [e1]
  exact hv
set_option maxHeartbeats 8000000 in
theorem begin_calls {w : World} {id_ fr bi bs bo : List UInt8} {h : Bool} (L_id_ : id_.length = 64) (L_fr : fr.length = 64) (L_bi : bi.length = 32) (L_bs : bs.length = 32) (L_bo : bo.length = 32) {tg tp : TypeId × Nat × Nat} (hG : Gl w tg) (hP : Gp w tp) :
    Calls Tryd.prog 8 #[.agg (cellsOf id_).toArray, .agg (cellsOf fr).toArray, .agg (bbC (bi ++ (bs ++ bo)) h).toArray] w fun e w' => e = .returned (.tuple #[.agg (cellsOf (agV (([id_ ++ bs, fr ++ bi, fr ++ bs] ++ if h then [fr ++ bo] else []).map dhL))).toArray, .int .i64 (agE (([id_ ++ bs, fr ++ bi, fr ++ bs] ++ if h then [fr ++ bo] else []).map dhL))]) ∧ Ext w w' := by
  obtain ⟨LL, hLL⟩ : ∃ LL, LL = ([id_ ++ bs, fr ++ bi, fr ++ bs] ++ if h then [fr ++ bo] else []) := ⟨_, rfl⟩
  rw [← hLL]
  have DW : Hid (∀ (W : World) (A : Option Addr) (n c : Nat), Ext w W → Xs W A n c LL → n ≤ 4 → Calls Tryd.prog 15 #[.slice A n c] W fun e w' => e = .returned (.tuple #[.agg (cellsOf (agV (LL.map dhL))).toArray, .int .i64 (agE (LL.map dhL))]) ∧ Ext W w') := fun W A n c e hx hn => drawn_calls hx hn (hG.ext e) (hP.ext e)
  have L_rv := agV_len (LL.map dhL)
  generalize agV (LL.map dhL) = rv at *
  generalize agE (LL.map dhL) = re at *
  have S_rv : (cellsOf rv).toArray.size = 32 := by simp [cellsOf_len, L_rv]
  have O_rv := cellsOf_one rv
  have B_ea := Lib.hid (exch_built (o := id_) (p := bs) L_id_ L_bs)
  have B_eb := Lib.hid (exch_built (o := fr) (p := bi) L_fr L_bi)
  have B_ec := Lib.hid (exch_built (o := fr) (p := bs) L_fr L_bs)
  have B_ed := Lib.hid (exch_built (o := fr) (p := bo) L_fr L_bo)
  have L_ea : (id_ ++ bs).length = 96 := by rw [List.length_append, L_id_, L_bs]
  have L_eb : (fr ++ bi).length = 96 := by rw [List.length_append, L_fr, L_bi]
  have L_ec : (fr ++ bs).length = 96 := by rw [List.length_append, L_fr, L_bs]
  have L_ed : (fr ++ bo).length = 96 := by rw [List.length_append, L_fr, L_bo]
  have C_id : (cellsOf id_).length = 64 := by rw [cellsOf_len, L_id_]
  have C_fr : (cellsOf fr).length = 64 := by rw [cellsOf_len, L_fr]
  have S_id : (cellsOf id_).toArray.size = 64 := by simp [cellsOf_len, L_id_]
  have S_fr : (cellsOf fr).toArray.size = 64 := by simp [cellsOf_len, L_fr]
  have C_bi : (cellsOf bi).length = 32 := by rw [cellsOf_len, L_bi]
  have C_bs : (cellsOf bs).length = 32 := by rw [cellsOf_len, L_bs]
  have C_bo : (cellsOf bo).length = 32 := by rw [cellsOf_len, L_bo]
  have C_ea : (cellsOf (id_ ++ bs)).length = 96 := by rw [cellsOf_len, L_ea]
  have C_eb : (cellsOf (fr ++ bi)).length = 96 := by rw [cellsOf_len, L_eb]
  have C_ec : (cellsOf (fr ++ bs)).length = 96 := by rw [cellsOf_len, L_ec]
  have C_ed : (cellsOf (fr ++ bo)).length = 96 := by rw [cellsOf_len, L_ed]
  have S96 := Z96x_size
  have hinf := Lib.hid info_exch
  generalize Z96x = ZX at *
  have hzs := Lib.hid (show (Value.agg ZX).cells.size = 96 from S96)
  have hal : ∀ w, (zeroValue 23).run Tryd.prog w = .ok (.agg (cellsOf (List.replicate 32 0)).toArray) w := fun w => by rw [zeros32_cells]; exact key_alloc w
  have L_zk : (List.replicate 32 (0 : UInt8)).length = 32 := rfl
  generalize List.replicate 32 (0 : UInt8) = zk at *
  have S_zk : (cellsOf zk).toArray.size = 32 := by simp [cellsOf_len, L_zk]
  have B0 : Hid (∀ s', Ext ((((w.alloc (Obj.cells (cellsOf id_).toArray 25)).alloc (Obj.cells (cellsOf fr).toArray 25)).alloc (Obj.cells (bbC (bi ++ (bs ++ bo)) h).toArray 27)).alloc (Obj.cells (cellsOf zk).toArray 23)) s' → Cb s' w.heap.size 25 (cellsOf id_) ∧ Cb s' (w.heap.size + 1) 25 (cellsOf fr) ∧ Cb s' (w.heap.size + 1 + 1) 27 (bbC (bi ++ (bs ++ bo)) h) ∧ Ky s' (w.heap.size + 1 + 1 + 1) zk ∧ Ext w s') := fun s' e => ⟨((by have q_ := Cb.new w 25 (cellsOf id_); simpa only [size_alloc] using q_ : Cb (w.alloc (Obj.cells (cellsOf id_).toArray 25)) w.heap.size 25 (cellsOf id_)).ext ((((Ext.refl _).alloc _).alloc _).alloc _)).ext e,
    ((by have q_ := Cb.new (w.alloc (Obj.cells (cellsOf id_).toArray 25)) 25 (cellsOf fr); simpa only [size_alloc] using q_ : Cb ((w.alloc (Obj.cells (cellsOf id_).toArray 25)).alloc (Obj.cells (cellsOf fr).toArray 25)) (w.heap.size + 1) 25 (cellsOf fr)).ext (((Ext.refl _).alloc _).alloc _)).ext e,
    ((by have q_ := Cb.new ((w.alloc (Obj.cells (cellsOf id_).toArray 25)).alloc (Obj.cells (cellsOf fr).toArray 25)) 27 (bbC (bi ++ (bs ++ bo)) h); simpa only [size_alloc] using q_ : Cb (((w.alloc (Obj.cells (cellsOf id_).toArray 25)).alloc (Obj.cells (cellsOf fr).toArray 25)).alloc (Obj.cells (bbC (bi ++ (bs ++ bo)) h).toArray 27)) (w.heap.size + 1 + 1) 27 (bbC (bi ++ (bs ++ bo)) h)).ext ((Ext.refl _).alloc _)).ext e,
    Ky.ext ⟨(by have q_ := heap_alloc_new (((w.alloc (Obj.cells (cellsOf id_).toArray 25)).alloc (Obj.cells (cellsOf fr).toArray 25)).alloc (Obj.cells (bbC (bi ++ (bs ++ bo)) h).toArray 27)) (Obj.cells (cellsOf zk).toArray 23); simpa only [size_alloc] using q_), L_zk⟩ e, (((((Ext.refl w).alloc _).alloc _).alloc _).alloc _).trans e⟩
  go_enter Tryd.func8, Tryd.ntmps8
  go_upto_region 1 with fail
  refine wp_gen (fun W => ∀ s', Ext W s' → Cb s' w.heap.size 25 (cellsOf id_) ∧ Cb s' (w.heap.size + 1) 25 (cellsOf fr) ∧ Cb s' (w.heap.size + 1 + 1) 27 (bbC (bi ++ (bs ++ bo)) h) ∧ Ky s' (w.heap.size + 1 + 1 + 1) zk ∧ Ext w s') B0.out ?_
  clear B0
  rintro w0 P0
  replace P0 := Lib.hid P0
  have r0 := Lib.hid (P0.out _ (Ext.refl _)).1
  have r1 := Lib.hid (P0.out _ (Ext.refl _)).2.1
  have r2 := Lib.hid ((P0.out _ (Ext.refl _)).2.2.1.mid (p := []) (y := cellsOf bi) (q := cellsOf bs ++ (cellsOf bo ++ [.bool h])) (by simp [bbC, cellsOf_app]) rfl)
  have r3 := Lib.hid ((P0.out _ (Ext.refl _)).2.2.1.mid (p := cellsOf bi) (y := cellsOf bs) (q := cellsOf bo ++ [.bool h]) (by simp [bbC, cellsOf_app]) C_bi)
  have own3 : Hid (OwnC ((w.heap.size + 1 + 1 + 1) + 1) (w0.alloc (Obj.cells (cellsOf (id_ ++ bs) ++ (cellsOf (fr ++ bi) ++ cellsOf (fr ++ bs))).toArray 49)) 49 96 (some ⟨w0.heap.size, 0, none⟩) 3 3 ([id_ ++ bs, fr ++ bi, fr ++ bs].map cellsOf)) :=
    OwnC.lit (L := [id_ ++ bs, fr ++ bi, fr ++ bs].map cellsOf) (fun x hx => by
      simp only [List.map_cons, List.map_nil, List.mem_cons, List.not_mem_nil, or_false] at hx
      rcases hx with rfl | rfl | rfl
      · exact C_ea
      · exact C_eb
      · exact C_ec) (by simp) (by simp) (heap_lt ((P0.out _ (Ext.refl _)).2.2.2.1).1) (by
        have q_ := heap_alloc_new w0 (Obj.cells (cellsOf (id_ ++ bs) ++ (cellsOf (fr ++ bi) ++ cellsOf (fr ++ bs))).toArray 49)
        simpa using q_)
  have m1 : Hid (Ext w0 (w0.alloc (Obj.cells (cellsOf (id_ ++ bs) ++ (cellsOf (fr ++ bi) ++ cellsOf (fr ++ bs))).toArray 49))) := (Ext.refl _).alloc _
  go_upto_region 2 with (first
    | (refine wpList_load_row rfl 25 _ rfl w.heap.size rfl 25 (cellsOf id_).toArray (0, 0) _ r0.out rfl rfl (by rw [S_id]; rfl) ?_; simp only [Act.put, List.setIfInBounds_toArray, List.set_cons_zero, List.set_cons_succ])
    | (refine wpList_load_row rfl 25 _ rfl (w.heap.size + 1) rfl 25 (cellsOf fr).toArray (0, 0) _ r1.out rfl rfl (by rw [S_fr]; rfl) ?_; simp only [Act.put, List.setIfInBounds_toArray, List.set_cons_zero, List.set_cons_succ])
    | (refine wpList_load_mid rfl (g := (w.heap.size + 1 + 1)) (off := 0) (ys := cellsOf bi) rfl rfl r2.out rfl rfl (by rw [C_bi]; rfl) ?_; simp only [Act.put, List.setIfInBounds_toArray, List.set_cons_zero, List.set_cons_succ])
    | (refine wpList_load_mid rfl (g := (w.heap.size + 1 + 1)) (off := 32) (ys := cellsOf bs) rfl rfl r3.out rfl rfl (by rw [C_bs]; rfl) ?_; simp only [Act.put, List.setIfInBounds_toArray, List.set_cons_zero, List.set_cons_succ])
    | (refine wpList_build_as rfl _ _ rfl (cellsOf (id_ ++ bs)).toArray (by simp only [List.map_toArray, List.map_cons, List.map_nil]; exact B_ea.out) ?_; simp only [Act.put, List.setIfInBounds_toArray, List.set_cons_zero, List.set_cons_succ])
    | (refine wpList_build_as rfl _ _ rfl (cellsOf (fr ++ bi)).toArray (by simp only [List.map_toArray, List.map_cons, List.map_nil]; exact B_eb.out) ?_; simp only [Act.put, List.setIfInBounds_toArray, List.set_cons_zero, List.set_cons_succ])
    | (refine wpList_build_as rfl _ _ rfl (cellsOf (fr ++ bs)).toArray (by simp only [List.map_toArray, List.map_cons, List.map_nil]; exact B_ec.out) ?_; simp only [Act.put, List.setIfInBounds_toArray, List.set_cons_zero, List.set_cons_succ])
    | (refine wpList_slice_c3 rfl Tryd.underlying50 hinf.out S96 (by omega) (by omega) C_ea C_eb C_ec (g := w0.heap.size) rfl rfl rfl rfl rfl ?_; simp only [Act.put, List.setIfInBounds_toArray, List.set_cons_zero, List.set_cons_succ]))
  obtain ⟨gl, hg_⟩ : ∃ g, g = w0.heap.size := ⟨_, rfl⟩
  refine wp_gen (fun W => OwnC ((w.heap.size + 1 + 1 + 1) + 1) W 49 96 (some ⟨gl, 0, none⟩) 3 3 ([id_ ++ bs, fr ++ bi, fr ++ bs].map cellsOf) ∧ Ext w0 W) ⟨by rw [hg_]; exact own3.out, m1.out⟩ ?_
  rw [← hg_]
  clear hg_ own3 m1 r0 r1 r2 r3
  rintro w1 ⟨o1, x1⟩
  have P1 : Hid (∀ s', Ext w1 s' → Cb s' w.heap.size 25 (cellsOf id_) ∧ Cb s' (w.heap.size + 1) 25 (cellsOf fr) ∧ Cb s' (w.heap.size + 1 + 1) 27 (bbC (bi ++ (bs ++ bo)) h) ∧ Ky s' (w.heap.size + 1 + 1 + 1) zk ∧ Ext w s') := fun s' e => P0.out s' (x1.trans e)
  clear P0 x1
  have wle : ((w.heap.size + 1 + 1 + 1) + 1) ≤ w1.heap.size := heap_lt ((P1.out _ (Ext.refl _)).2.2.2.1).1
  have fl := ((P1.out _ (Ext.refl _)).2.2.1).cell (j := 96) (v := .bool h) (by simp [bbC, List.getElem?_append_right, cellsOf_len, L_bi, L_bs, L_bo])
  cases h with
  | false =>
    have hLf : Hid (∀ _ : Unit, LL = [id_ ++ bs, fr ++ bi, fr ++ bs]) := fun _ => by rw [hLL]; rfl
    have X3 := agXs o1 (fun x hx => by
      simp only [List.mem_cons, List.not_mem_nil, or_false] at hx
      rcases hx with rfl | rfl | rfl
      · exact L_ea
      · exact L_eb
      · exact L_ec) (by omega)
    have DC := Lib.hid (DW.out w1 (some ⟨gl, 0, none⟩) 3 3 (P1.out _ (Ext.refl _)).2.2.2.2 (by rw [hLf.out ()]; exact X3) (by omega))
    have PZ : Hid (∀ s', Ext w1 s' → Ky s' (w.heap.size + 1 + 1 + 1) zk ∧ Ext w s') := fun s' e => (P1.out s' e).2.2.2
    clear hLL hLf DW P1 o1 X3
    go_wp2_with fail
    refine (DC.out).mono ?_
    rintro e w9 ⟨rfl, e9⟩
    have kz := Lib.hid (PZ.out _ e9)
    clear DC PZ e9
    go_wp2_with (refine wpList_store_row rfl 23 _ _ rfl (w.heap.size + 1 + 1 + 1) (cellsOf rv).toArray rfl rfl 23 _ kz.out.1.1 (by rw [S_rv]; rfl) (by rw [S_rv, S_zk]) O_rv ?_; simp only [Act.put])
    (try simp only [Exit.inBlock, Exit.then])
    refine bodyPost_ret (v := .tuple #[.agg (cellsOf rv).toArray, .int .i64 re]) ?_ rfl ?_
    · exact results_row_tmp rfl _ _ (w.heap.size + 1 + 1 + 1) 23 (cellsOf rv).toArray (0, 0) _ _ rfl rfl (setRow_heap _ _ _ _ _ _ kz.out.1.1) rfl rfl (by rw [S_rv]; rfl)
    exact ⟨rfl, below_setRow kz.out.2 (by omega) _⟩
  | true =>
    have hLt : Hid (∀ _ : Unit, LL = [id_ ++ bs, fr ++ bi, fr ++ bs, fr ++ bo]) := fun _ => by rw [hLL]; rfl
    clear hLL
    have r1 := Lib.hid (P1.out _ (Ext.refl _)).2.1
    have r4 := Lib.hid ((P1.out _ (Ext.refl _)).2.2.1.mid (off := 64) (p := cellsOf bi ++ cellsOf bs) (y := cellsOf bo) (q := [.bool true]) (by simp [bbC, cellsOf_app]) (by simp [cellsOf_len, L_bi, L_bs]))
    have n1 : Hid ((w1.alloc (Obj.cells (cellsOf (fr ++ bo)).toArray 49)).heap[w1.heap.size]? = some (.cells (cellsOf (fr ++ bo)).toArray 49 (0, 0))) := heap_alloc_new _ _
    have o2 := Lib.hid (o1.ext ((Ext.refl w1).alloc (Obj.cells (cellsOf (fr ++ bo)).toArray 49)))
    have z2 : Hid (((w.heap.size + 1 + 1 + 1) + 1) ≤ (w1.alloc (Obj.cells (cellsOf (fr ++ bo)).toArray 49)).heap.size) := by unfold Hid; rw [size_alloc]; omega
    have one := one_mem (fr ++ bo)
    clear o1
    go_upto_region 4 with (first
      | (refine wpList_load_row rfl 25 _ rfl (w.heap.size + 1) rfl 25 (cellsOf fr).toArray (0, 0) _ r1.out rfl rfl (by rw [S_fr]; rfl) ?_; simp only [Act.put, List.setIfInBounds_toArray, List.set_cons_zero, List.set_cons_succ])
      | (refine wpList_load_mid rfl (g := (w.heap.size + 1 + 1)) (off := 64) (ys := cellsOf bo) rfl rfl r4.out rfl rfl (by rw [C_bo]; rfl) ?_; simp only [Act.put, List.setIfInBounds_toArray, List.set_cons_zero, List.set_cons_succ])
      | (refine wpList_build_as rfl _ _ rfl (cellsOf (fr ++ bo)).toArray (by simp only [List.map_toArray, List.map_cons, List.map_nil]; exact B_ed.out) ?_; simp only [Act.put, List.setIfInBounds_toArray, List.set_cons_zero, List.set_cons_succ])
      | (refine wpList_slice_c rfl Tryd.underlying50 hinf.out S96 (by omega) (by omega) C_ed (g := w1.heap.size) rfl rfl rfl ?_; simp only [Act.put, List.setIfInBounds_toArray, List.set_cons_zero, List.set_cons_succ])
      | (at_builtin; (with_reducible refine wpList_append_c rfl Tryd.underlying50 hinf.out hzs.out (by omega) (by omega) (x := .tmp 24) (y := .tmp 29) rfl rfl rfl o2.out n1.out C_ed one (by omega) z2.out ?_); intro A3 c3 w3 o3 g3 b3; replace o3 := Lib.hid o3; replace g3 := Lib.hid g3; replace b3 := Lib.hid b3; simp only [Act.put, List.setIfInBounds_toArray, List.set_cons_zero, List.set_cons_succ]))
    have P4 : Hid (∀ s', Ext w3 s' → Ky s' (w.heap.size + 1 + 1 + 1) zk ∧ Ext w s') := fun s' e => by
      have p1 := (P1.out _ ((Ext.refl w1).alloc (Obj.cells (cellsOf (fr ++ bo)).toArray 49))).2.2.2
      exact ⟨Ky.ext ⟨(b3.out.block _ (by omega)).trans p1.1.1, p1.1.2⟩ e, Ext.trans (show Ext w w3 from Below.trans p1.2 (b3.out.mono (by omega))) e⟩
    have X4 := agXs (L := [id_ ++ bs, fr ++ bi, fr ++ bs, fr ++ bo]) (by simpa using o3.out) (fun x hx => by
      simp only [List.mem_cons, List.not_mem_nil, or_false] at hx
      rcases hx with rfl | rfl | rfl | rfl
      · exact L_ea
      · exact L_eb
      · exact L_ec
      · exact L_ed) (by omega)
    have DC := Lib.hid (DW.out w3 A3 (3 + 1) c3 (P4.out _ (Ext.refl _)).2 (by rw [hLt.out ()]; exact X4) (by omega))
    have PZ := P4
    clear hLt DW P1 o3 X4 P4 b3 g3 o2 n1 z2 one r1 r4
    go_wp2_with fail
    refine (DC.out).mono ?_
    rintro e w9 ⟨rfl, e9⟩
    have kz := Lib.hid (PZ.out _ e9)
    clear DC PZ e9
    go_wp2_with (refine wpList_store_row rfl 23 _ _ rfl (w.heap.size + 1 + 1 + 1) (cellsOf rv).toArray rfl rfl 23 _ kz.out.1.1 (by rw [S_rv]; rfl) (by rw [S_rv, S_zk]) O_rv ?_; simp only [Act.put])
    (try simp only [Exit.inBlock, Exit.then])
    refine bodyPost_ret (v := .tuple #[.agg (cellsOf rv).toArray, .int .i64 re]) ?_ rfl ?_
    · exact results_row_tmp rfl _ _ (w.heap.size + 1 + 1 + 1) 23 (cellsOf rv).toArray (0, 0) _ _ rfl rfl (setRow_heap _ _ _ _ _ _ kz.out.1.1) rfl rfl (by rw [S_rv]; rfl)
    exact ⟨rfl, below_setRow kz.out.2 (by omega) _⟩
end Go.Proofs.YtfhafednnnfmbaaDoor
