import Derived.Test.YthdjojindijmnaaDoorTag
import Derived.Test.YthdjojindijmnaaDoorPkJ
/-
  seal.Open.
-/
namespace Go.Proofs.YthdjojindijmnaaDoor
open Go.ChangeShapes Go.WideShapes Go.ChangeAt Go.RowKit Go.Deep
set_option maxRecDepth 100000

theorem part_keyS {w : World} {K : Array Value} (hK : K.size = 32) : (part 23 K 0).run Tryd.prog w = .ok (.agg K) w := by
  obtain ⟨i, hi, hz0, hz1, hz2⟩ := info_parts infoK
  have he : K.extract 0 32 = K := by rw [← hK]; exact Array.extract_size
  simp [part, isAgg, run_underlying Tryd.underlying23, sizeOf, typeInfo, hi, hz1, he]
theorem tag_fields : ∃ f : Field, (Tryd.prog.fieldsOf 62).toList = [f] ∧ f.type = 23 ∧ f.offset = 0 ∧ f.name ≠ "_" := by
  have h : ((Tryd.prog.fieldsOf 62).toList.map fun f => (f.name, f.type, f.offset)) = [("bytes", 23, 0)] := by kernel_rfl
  match hl : (Tryd.prog.fieldsOf 62).toList with
  | [] => rw [hl] at h; simp at h
  | [f] =>
    rw [hl] at h
    simp only [List.map_cons, List.map_nil, List.cons.injEq, and_true, Prod.mk.injEq] at h
    exact ⟨f, rfl, h.2.1, h.2.2, by rw [h.1]; decide⟩
  | f :: g :: r => rw [hl] at h; simp at h
theorem tag_equal {xs ys : List UInt8} (hx : xs.length = 32) (hy : ys.length = 32) (w : World) :
    (Op.equalIn 10000 62 (.agg (cellsOf xs).toArray) (.agg (cellsOf ys).toArray)).run Tryd.prog w = .ok (decide (xs = ys)) w := by
  have hX : (cellsOf xs).toArray.size = 32 := by simp [cellsOf_len, hx]
  have hY : (cellsOf ys).toArray.size = 32 := by simp [cellsOf_len, hy]
  have hk : (Op.equalIn 9999 23 (.agg (cellsOf xs).toArray) (.agg (cellsOf ys).toArray)).run Tryd.prog w = .ok (decide (xs = ys)) w := by
    rw [cellsOf_cell, cellsOf_cell, run_equalIn_bytes w 9997 23 5 32 rfl rfl (fun _ => rfl) xs ys hx hy]
    congr 1
    rw [Bool.eq_iff_iff]; simp
  obtain ⟨f, hf, ht, ho, hn⟩ := tag_fields
  rw [run_equalIn_struct w 9999 62 _ _ (by kernel_rfl) (by kernel_rfl), hf]
  simp only [Op.eqFields, ht, ho, if_pos hn, Sem.run_bind, part_keyS hX, part_keyS hY, Result.andThen_ok, hk]
  cases decide (xs = ys) <;> rfl
theorem tag_guard : Tryd.prog.eqGuardType Tryd.prog.depth 62 = false := by kernel_rfl
theorem exec_neq_tag {o : Oper} {a : Act} {w : World} {x y : Operand} {t' : TypeId} {xs ys : List UInt8} {b : Bool} (hb : (!decide (xs = ys)) = b) (lx : xs.length = 32) (ly : ys.length = 32) (ho : o.op = .binOp .neq 62 x y t') (hx : a.eval x = .agg (cellsOf xs).toArray) (hy : a.eval y = .agg (cellsOf ys).toArray) :
    (execOp a.eval o).run Tryd.prog w = .ok (.value (.bool b)) w := by
  unfold execOp
  simp only [ho, hx, hy, Sem.run_bind, run_eqGuard_agg _ _ _ _ _ _ _ tag_guard, Result.andThen_ok, run_neq_struct, tag_equal lx ly, Sem.run_pure, hb]

set_option maxHeartbeats 1000000 in
theorem open_short {A B : Option Addr} {n c m d : Nat} {ks bs cs : List UInt8} {w : World} (h : Bs w A n c bs) (h' : Bs w B m d cs) (hm : m < 32) :
    Calls Tryd.prog 23 #[.agg (cellsOf ks).toArray, .slice A n c, .slice B m d] w (RetBsE [] 3 w) := by
  have TAG : Hid (∀ W, Ext w W → Calls Tryd.prog 24 #[.slice B m d] W (RetTag (List.replicate 32 0) 3 W)) := fun W e => tag_err (h'.ext e) hm
  have ZL : (List.replicate 32 (0 : UInt8)).length = 32 := by simp
  generalize List.replicate 32 (0 : UInt8) = zs at *
  have ZS : (cellsOf zs).toArray.size = 32 := by simp [cellsOf_len, ZL]
  have Z1 := cellsOf_one zs
  have hal := key_alloc
  have hz0 := zeros32_size
  generalize zeros32 = Z at *
  clear h h'
  generalize (cellsOf ks).toArray = KS
  go_enter Tryd.func23, Tryd.ntmps23
  go_wp2_with fail
  refine (TAG.out _ ((Ext.refl w).alloc _)).mono ?_
  rintro e v ⟨rfl, e1⟩
  have a1 : Hid ((v.alloc (Obj.cells Z 23)).heap[v.heap.size]? = some (.cells Z 23 (0, 0))) := heap_alloc_new _ _
  go_wp2_with (refine wpList_store_row rfl 23 _ _ rfl v.heap.size (cellsOf zs).toArray rfl rfl 23 Z a1.out (by rw [ZS]; rfl) (by rw [ZS]; exact hz0) Z1 ?_; simp only [Act.put, List.setIfInBounds_toArray, List.set_cons_zero, List.set_cons_succ])
  go_ret2
  exact ⟨none, 0, 0, rfl, Bs.nil _, ((Ext.refl w).alloc _).trans (e1.trans (below_setRow ((Ext.refl v).alloc _) (Nat.le_refl _) _))⟩

set_option maxHeartbeats 4000000 in
theorem open_main {A B : Option Addr} {n c m d q : Nat} {ks bs cs : List UInt8} {w : World} (hk : ks.length = 32) (h : Bs w A n c bs) (h' : Bs w B m d cs) (hq : m = q + 32) (hn : n ≤ 1000000) (hm : m ≤ 1000000) {b : Bool} (hb : (!decide (sealM ks bs (cs.take q) = cs.drop q)) = b) {tg : TypeId × Nat × Nat} (hG : Gl w tg) :
    Calls Tryd.prog 23 #[.agg (cellsOf ks).toArray, .slice A n c, .slice B m d] w (RetBsE (if b then [] else sealT ks (cs.take q)) (if b then 4 else 0) w) := by
  obtain ⟨R, hR⟩ : ∃ R, R = (if b then [] else sealT ks (cs.take q)) := ⟨_, rfl⟩
  obtain ⟨er, hE⟩ : ∃ er : Int, er = (if b then 4 else 0) := ⟨_, rfl⟩
  rw [← hR, ← hE]
  replace hR := Lib.hid hR
  replace hE := Lib.hid hE
  have qm : q ≤ m := by omega
  have TAG : Hid (∀ W, Ext w W → Calls Tryd.prog 24 #[.slice B m d] W (RetTag (cs.drop q) 0 W)) := fun W e => tag_calls (h'.ext e) hq (by omega)
  have SEAL : Hid (∀ W, Ext w W → Calls Tryd.prog 33 #[.agg (cellsOf ks).toArray] W fun e w' => e = .returned (.agg (cellsOf (slrL ks)).toArray) ∧ Ext W w') := fun W e => sealerOf_calls hk (hG.kept e hG.lt)
  have TURN : Hid (∀ W, Ext w W → Calls Tryd.prog 34 #[.agg (cellsOf (slrL ks)).toArray, .slice B q d] W (RetOwn (sealT ks (cs.take q)) W)) := fun W e => sturn2_calls ((h'.ext e).take qm) (by omega)
  have TAGOF : Hid (∀ W, Ext w W → Calls Tryd.prog 35 #[.agg (cellsOf (slrL ks)).toArray, .slice A n c, .slice B q d] W fun e w' => e = .returned (.agg (cellsOf (sealM ks bs (cs.take q))).toArray) ∧ Ext W w') := fun W e => tagOf2_calls hk (h.ext e) ((h'.ext e).take qm) hn (by omega) (hG.kept e hG.lt)
  have ML := sealM_len ks bs (cs.take q)
  have SL := slrL_len hk
  have XL : (cs.drop q).length = 32 := by rw [List.length_drop, h'.len]; omega
  have z1 := h.le
  have z2 := h.cap
  have z3 := h'.le
  have z4 := h'.cap
  have hd : (m : Int) - 32 = (q : Int) := by omega
  have q1 : q ≤ 1000000 := by omega
  have hw : IntKind.i64.wrap (q : Int) = (q : Int) := IntWalk.i64_in _ (by omega)
  replace hq := Lib.hid hq
  clear hG h h'
  generalize sealM ks bs (cs.take q) = M at *
  generalize sealT ks (cs.take q) = T at *
  generalize cs.drop q = xs at *
  generalize slrL ks = S at *
  replace hb := Lib.hid hb
  have KS : (cellsOf ks).toArray.size = 32 := by simp [cellsOf_len, hk]
  have XS : (cellsOf xs).toArray.size = 32 := by simp [cellsOf_len, XL]
  have X1 := cellsOf_one xs
  have SS : (cellsOf S).toArray.size = 96 := by simp [cellsOf_len, SL]
  have S1 := cellsOf_one S
  have ha1 := sealer_alloc
  have hz1 := Z96_size
  generalize Z96 = Y at *
  have hbd : Hid (Tryd.prog.built 62 [(0, .agg (cellsOf xs).toArray)] = some (cellsOf xs).toArray) := tag_built XS
  have ha2 := key_alloc
  have hz2 := zeros32_size
  generalize zeros32 = Z at *
  have P0 : Hid (∀ s, Ext (w.alloc (Obj.cells (cellsOf ks).toArray 23)) s → Ky s w.heap.size ks ∧ Ext w s) := fun s e => ⟨(Ky.boxed w hk).ext e, ((Ext.refl w).alloc _).trans e⟩
  go_enter Tryd.func23, Tryd.ntmps23
  go_wp2_with fail
  refine (TAG.out _ (P0.out _ (Ext.refl _)).2).mono ?_
  rintro e v ⟨rfl, e1⟩
  have a1 : Hid ((v.alloc (Obj.cells Z 23)).heap[v.heap.size]? = some (.cells Z 23 (0, 0))) := heap_alloc_new _ _
  have e5 : Ext v ((v.alloc (Obj.cells Z 23)).setRow v.heap.size (cellsOf xs).toArray) := below_setRow ((Ext.refl v).alloc _) (Nat.le_refl _) _
  go_upto_region 4 with (refine wpList_store_row rfl 23 _ _ rfl v.heap.size (cellsOf xs).toArray rfl rfl 23 Z a1.out (by rw [XS]; rfl) (by rw [XS]; exact hz2) X1 ?_; simp only [Act.put, List.setIfInBounds_toArray, List.set_cons_zero, List.set_cons_succ])
  obtain ⟨f, hf⟩ : ∃ f, f = v.heap.size := ⟨_, rfl⟩
  refine wp_gen (fun W => ∀ s, Ext W s → Ky s w.heap.size ks ∧ Ky s f xs ∧ Ext w s) (fun s e => by
    have p := P0.out s (e1.trans (e5.trans e))
    exact ⟨p.1, (show Ky _ f xs from ⟨by rw [hf]; exact setRow_heap _ _ _ _ _ _ a1.out, XL⟩).ext e, p.2⟩) ?_
  rw [← hf]
  clear hf a1 e5 e1 P0 TAG
  rintro w1 P1
  replace P1 := Lib.hid P1
  have k0 := Lib.hid (P1.out _ (Ext.refl _)).1
  go_wp2_with (refine wpList_load_row rfl 23 _ rfl w.heap.size rfl 23 (cellsOf ks).toArray (0, 0) _ k0.out.1 rfl rfl (by rw [KS]; rfl) ?_; simp only [Act.put, List.setIfInBounds_toArray, List.set_cons_zero, List.set_cons_succ])
  refine (SEAL.out _ (P1.out _ (Ext.refl _)).2.2).mono ?_
  rintro e v ⟨rfl, e1⟩
  have a1 : Hid ((v.alloc (Obj.cells Y 58)).heap[v.heap.size]? = some (.cells Y 58 (0, 0))) := heap_alloc_new _ _
  have e5 : Ext v ((v.alloc (Obj.cells Y 58)).setRow v.heap.size (cellsOf S).toArray) := below_setRow ((Ext.refl v).alloc _) (Nat.le_refl _) _
  go_upto_region 6 with (first
    | (refine wpList_store_row rfl 58 _ _ rfl v.heap.size (cellsOf S).toArray rfl rfl 58 Y a1.out (by rw [SS]; rfl) (by rw [SS]; exact hz1) S1 ?_; simp only [Act.put, List.setIfInBounds_toArray, List.set_cons_zero, List.set_cons_succ])
    | (refine wpList_exec rfl (exec_to (k := q) rfl rfl rfl (by omega)) ?_; simp only [Act.put, List.setIfInBounds_toArray, List.set_cons_zero, List.set_cons_succ]))
  obtain ⟨g, hg⟩ : ∃ g, g = v.heap.size := ⟨_, rfl⟩
  refine wp_gen (fun W => ∀ s, Ext W s → s.heap[g]? = some (.cells (cellsOf S).toArray 58 (0, 0)) ∧ Ky s f xs ∧ Ext w s) (fun s e => by
    have p := P1.out s (e1.trans (e5.trans e))
    exact ⟨(e.block _ (by simp [hg])).trans (by rw [hg]; exact setRow_heap _ _ _ _ _ _ a1.out), p.2.1, p.2.2⟩) ?_
  rw [← hg]
  clear hg a1 e5 e1 P1 SEAL k0
  rintro w2 P2
  replace P2 := Lib.hid P2
  go_wp2_with fail
  refine wp_region_seq (R := Ext) Ext.refl (fun _ _ _ => Ext.trans) [0, 1, 2, 4, 5, 3, 6] [3] [(0, 28, 2048), (0, 29, 4), (0, 30, 4096), (7, 31, 1879048192), (0, 32, 512), (16, 33, 4294967296), (40, 34, 10737418240)] (by kernel_rfl) (by kernel_rfl) (by kernel_rfl) rfl (by kernel_rfl) (by kernel_rfl) (fun _ _ d _ _ h => by cases d <;> exact h) ?_
  refine seq_read (fun w' => w'.heap[g]? = some (.cells (cellsOf S).toArray 58 (0, 0))) (fun w' e => (P2.out w' ((Ext.refl _).drew.trans e)).1) _ (v := .agg (cellsOf S).toArray) rfl rfl (by rfl) (fun w' hF => exec_load_row rfl rfl hF rfl rfl (by rw [SS]; rfl)) ?_
  simp only [Act.put, List.setIfInBounds_toArray, List.set_cons_zero, List.set_cons_succ]
  iterate 2 (first | (refine seq_read (fun _ => True) (fun _ _ => trivial) _ (v := ?_) rfl rfl (by rfl) ?_ ?_; rotate_left; (· intro w' hF; go_simp; (try with_reducible rfl)); simp only [Act.put, List.setIfInBounds_toArray, List.set_cons_zero, List.set_cons_succ]) | (refine seq_skip _ rfl rfl (by rfl) ?_; simp only [Act.put, List.setIfInBounds_toArray, List.set_cons_zero, List.set_cons_succ]))
  refine seq_read (fun w' => w'.heap[f]? = some (.cells (cellsOf xs).toArray 23 (0, 0))) (fun w' e => (P2.out w' ((Ext.refl _).drew.trans e)).2.1.1) _ (v := .agg (cellsOf xs).toArray) rfl rfl (by rfl) (fun w' hF => exec_load_row rfl rfl hF rfl rfl (by rw [XS]; rfl)) ?_
  simp only [Act.put, List.setIfInBounds_toArray, List.set_cons_zero, List.set_cons_succ]
  refine seq_read (fun _ => True) (fun _ _ => trivial) _ (v := .agg (cellsOf xs).toArray) rfl rfl (by rfl) (fun w' _ => exec_build_as rfl (by simp only [List.map_toArray, List.map_cons, List.map_nil]; exact hbd.out)) ?_
  simp only [Act.put, List.setIfInBounds_toArray, List.set_cons_zero, List.set_cons_succ]
  refine seq_do _ rfl rfl (by rfl) (fun K1 hK1 => ?_)
  go_simp
  refine (TAGOF.out _ (P2.out _ (Ext.refl _).drew).2.2).mono ?_
  rintro e w3 ⟨rfl, e3⟩
  refine hK1.out _ _ e3 ?_
  clear hK1 K1
  try simp only [Act.put, List.setIfInBounds_toArray, List.set_cons_zero, List.set_cons_succ]
  refine seq_read (fun _ => True) (fun _ _ => trivial) _ (v := .bool b) rfl rfl (by rfl) (fun w' _ => exec_neq_tag hb.out ML XL rfl rfl rfl) ?_
  simp only [Act.put, List.setIfInBounds_toArray, List.set_cons_zero, List.set_cons_succ]
  refine seq_done ?_
  have P3 : Hid (∀ s, Ext w3 s → s.heap[g]? = some (.cells (cellsOf S).toArray 58 (0, 0)) ∧ Ky s f xs ∧ Ext w s) := fun s e => P2.out s ((Ext.refl _).drew.trans (e3.trans e))
  clear P2 e3 TAGOF hb hbd
  have k0 := Lib.hid (P3.out _ (Ext.refl _)).1
  cases b
  · obtain rfl : R = T := hR.out
    obtain rfl : er = 0 := hE.out
    clear hR hE
    go_wp2_with (refine wpList_load_row rfl 58 _ rfl g rfl 58 (cellsOf S).toArray (0, 0) _ k0.out rfl rfl (by rw [SS]; rfl) ?_; simp only [Act.put, List.setIfInBounds_toArray, List.set_cons_zero, List.set_cons_succ])
    refine (TURN.out _ (P3.out _ (Ext.refl _)).2.2).mono ?_
    rintro e w4 ⟨A4, n4, c4, rfl, o4, e4⟩
    go_wp2_with fail
    go_ret2
    exact ⟨A4, n4, c4, rfl, o4.bs, (P3.out _ e4).2.2⟩
  · obtain rfl : R = [] := hR.out
    obtain rfl : er = 4 := hE.out
    clear hR hE
    go_wp2_with fail
    go_ret2
    exact ⟨none, 0, 0, rfl, Bs.nil _, (P3.out _ (Ext.refl _)).2.2⟩
end Go.Proofs.YthdjojindijmnaaDoor
