import Derived.Test.YtmnohmhhmaeljaaDoorPkK
import Derived.Test.YtmnohmhhmaeljaaDoorMac
import Derived.Test.YtmnohmhhmaeljaaDoorKeyEq
import Derived.Test.YtmnohmhhmaeljaaDoorSeqT
import Derived.Test.YtmnohmhhmaeljaaDoorRowOps
import Derived.Great.FillDense
section
/-
  commit.made.
-/
namespace Go.Proofs.YtmnohmhhmaeljaaDoor
open Go.ChangeShapes Go.WideShapes Go.ChangeAt Go.RowKit Go.Deep

theorem fill_one {K Z : Array Value} (pl : Nat → Option (Nat × Nat)) (hp : pl 0 = some (0, 32)) (hK : K.size = 32) (hZ : Z.size = 32) : Instr.fill pl Z [(0, .agg K)] = some K := by
  have hc : (Value.agg K).cells = K := rfl
  simp only [Instr.fill, hp, hc, hK, hZ]
  simp only [ne_eq, not_true_eq_false, decide_false, Bool.false_or, Nat.zero_add, Nat.lt_irrefl, decide_false, Bool.false_eq_true, if_false]
  have := Great.fill_whole (s := 32) (by omega) [Value.agg K] Z (fun v hv => by
    simp only [List.mem_singleton] at hv
    subst hv
    exact hK) (by simp [hZ])
  simp only [List.zipIdx_cons, List.zipIdx_nil, List.map_cons, List.map_nil, List.flatMap_cons, List.flatMap_nil, List.append_nil, Instr.fill, hc, hK, hZ, Nat.zero_mul] at this
  simpa using this
theorem made_alloc (w : World) : (zeroValue 156).run Tryd.prog w = .ok (.agg zeros32) w := by kernel_rfl
theorem made_built {K : Array Value} (hK : K.size = 32) : Tryd.prog.built 156 [(0, .agg K)] = some K := by
  have h : ∃ pl : Nat → Option (Nat × Nat), pl 0 = some (0, 32) ∧ ∀ ps, Tryd.prog.built 156 ps = Instr.fill pl zeros32 ps := ⟨(#[(0, 32)][·]?), rfl, fun ps => by kernel_rfl⟩
  obtain ⟨pl, h0, h1⟩ := h
  rw [h1, fill_one pl h0 hK zeros32_size]

set_option maxRecDepth 100000 in
set_option maxHeartbeats 2000000 in
theorem made_calls {A : Option Addr} {n c : Nat} {l : List (List UInt8)} {ks : List UInt8} {w : World} (hk : ks.length = 32) (h : Rw w A n c l) (hm : (joinL l).length ≤ 100000000) {tg : TypeId × Nat × Nat} (hG : Gl w tg) :
    Calls Tryd.prog 97 #[.agg (cellsOf ks).toArray, .slice A n c] w fun e w' => e = .returned (.agg (cellsOf (macL ks (joinL l))).toArray) ∧ Ext w w' := by
  have JOIN : Hid (∀ (W : World), Ext w W → Calls Tryd.prog 46 #[.slice A n c] W (RetBs (joinL l) W)) := fun W e => join_calls (h.ext e) hm
  have MAC : Hid (∀ (W : World) (g : Nat) (A' : Option Addr) (m d : Nat), Ext w W → Ky W g ks → Bs W A' m d (joinL l) → Calls Tryd.prog 79 #[.slice (some ⟨g, 0, none⟩) 32 32, .slice A' m d] W fun e w' => e = .returned (.tuple #[.agg (cellsOf (macL ks (joinL l))).toArray, .int .i64 0]) ∧ Ext W w') := fun W g A' m d e k b => mac_calls k.bs b (by decide) (hG.kept e hG.lt)
  clear hG h
  have ML := macL_len ks (joinL l)
  generalize macL ks (joinL l) = D at *
  have DS : (cellsOf D).toArray.size = 32 := by simp [cellsOf_len, ML]
  have D1 := cellsOf_one D
  have hbd : Hid (Tryd.prog.built 156 [(0, .agg (cellsOf D).toArray)] = some (cellsOf D).toArray) := made_built DS
  have hal := key_alloc
  have hal2 := made_alloc
  have hz0 := zeros32_size
  generalize zeros32 = Z at *
  have B0 : Hid (∀ w', Ext ((w.alloc (Obj.cells (cellsOf ks).toArray 24)).alloc (Obj.cells Z 156)) w' → Ky w' w.heap.size ks ∧ w'.heap[w.heap.size + 1]? = some (.cells Z 156 (0, 0)) ∧ Ext w w') := fun w' e => ⟨⟨(e.block _ (by rw [size_alloc, size_alloc]; omega)).trans (heap_alloc1 _ _ _), hk⟩, (e.block _ (by rw [size_alloc, size_alloc]; omega)).trans (heap_alloc2 _ _ _), (((Ext.refl w).alloc _).alloc _).trans e⟩
  go_enter Tryd.func97, Tryd.ntmps97
  go_upto_region 1 with fail
  refine wp_gen (fun W => ∀ w', Ext W w' → Ky w' w.heap.size ks ∧ w'.heap[w.heap.size + 1]? = some (.cells Z 156 (0, 0)) ∧ Ext w w') B0.out ?_
  clear B0
  rintro w0 b0
  have z0 := heap_lt (b0 _ (Ext.refl _)).2.1
  have B0 := Lib.hid b0
  clear b0
  go_cut [5, 6] (fun s5 s6 wx => ∃ g : Nat, s5 = .pointer (some ⟨g, 0, none⟩) ∧ s6 = .int .i64 0 ∧ Below w0.heap.size w0 wx ∧ wx.heap[g]? = some (.cells (cellsOf D).toArray 24 (0, 0)) ∧ w0.heap.size ≤ g)
  case first =>
    refine qgT (R := Below w0.heap.size) (Below.refl _) (fun _ _ _ => Below.trans) (.rd 0 (.rd 1 (.alt 2 (.alt 3 (.rd 4 (.rd 5 (.rd 6 (.alt 7 (.alt 8 (.rd 9 .nil) .stop) .stop)))) (.alt 7 (.alt 3 (.rd 4 (.rd 5 (.rd 6 (.alt 8 (.rd 9 .nil) .stop)))) .stop) .stop)) (.alt 7 (.alt 2 (.alt 3 (.rd 4 (.rd 5 (.rd 6 (.alt 8 (.rd 9 .nil) .stop)))) .stop) .stop) .stop)))) 10 ?_
    repeat ((first | refine qtR0 ?_ | refine qtS ?_); go_frame)
    have SE : Hid (Ext w0 w0.drew) := (Ext.refl w0).drew
    generalize w0.drew = WC at *
    repeat' (first
      | exact seqT_stop
      | (refine seqT_do (i := 2) _ rfl ?_ ?_ (fun K1 hK1 => ?_)
         (· rfl)
         rotate_left
         go_simp
         refine (JOIN.out _ (B0.out _ SE.out).2.2).mono ?_
         rintro e0 WC ⟨A2, n2, c2, rfl, b2, e⟩
         refine hK1.out _ _ (e.mono SE.out.size) ?_
         clear hK1 K1
         (try replace hL := Lib.hid ((e.block _ (heap_lt hL.out)).trans hL.out))
         replace SE := Lib.hid (SE.out.trans e)
         have hJ := Lib.hid b2
         clear e b2
         (try go_frame)
         repeat ((first | refine qtR0 ?_ | refine qtS ?_); go_frame)
         skip)
      | (refine seqT_do (i := 3) _ rfl ?_ ?_ (fun K1 hK1 => ?_)
         (· rfl)
         rotate_left
         go_simp
         refine (MAC.out _ _ _ _ _ (B0.out _ SE.out).2.2 (B0.out _ SE.out).1 hJ.out).mono ?_
         rintro e0 WC ⟨rfl, e⟩
         refine hK1.out _ _ (e.mono SE.out.size) ?_
         clear hK1 K1 hJ
         (try replace hL := Lib.hid ((e.block _ (heap_lt hL.out)).trans hL.out))
         replace SE := Lib.hid (SE.out.trans e)
         clear e
         (try go_frame)
         repeat ((first | refine qtR0 ?_ | refine qtS ?_); go_frame)
         skip)
      | (refine seqT_do (i := 7) _ rfl ?_ ?_ (fun K1 hK1 => ?_)
         (· rfl)
         rotate_left
         go_simp
         have e : Ext WC (WC.alloc (Obj.cells Z 24)) := (Ext.refl WC).alloc _
         obtain ⟨gL, hgL⟩ : ∃ g, g = WC.heap.size := ⟨_, rfl⟩
         have hL := Lib.hid (heap_alloc_new WC (Obj.cells Z 24))
         rw [← hgL] at hL ⊢
         have zl : w0.heap.size ≤ gL := by rw [hgL]; exact SE.out.size
         refine hK1.out _ _ (e.mono SE.out.size) ?_
         clear hK1 K1
         replace hgL := Lib.hid hgL
         (try replace hJ := Lib.hid (hJ.out.ext e))
         replace SE := Lib.hid (SE.out.trans e)
         clear e
         generalize WC.alloc (Obj.cells Z 24) = WC at *
         (try go_frame)
         repeat ((first | refine qtR0 ?_ | refine qtS ?_); go_frame)
         skip)
      | (refine seqT_do (i := 8) _ rfl ?_ ?_ (fun K1 hK1 => ?_)
         (· rfl)
         rotate_left
         refine wp_store_row _ _ _ rfl gL (cellsOf D).toArray rfl rfl 24 Z hL.out (by rw [DS]; rfl) (by rw [DS]; exact hz0) D1 ?_
         refine hK1.out _ _ (below_setRow (Below.refl _ _) zl _) ?_
         clear hK1 K1
         have S1 : Hid (Below w0.heap.size w0 (WC.setRow gL (cellsOf D).toArray)) := below_setRow SE.out zl _
         have kx : Hid ((WC.setRow gL (cellsOf D).toArray).heap[gL]? = some (.cells (cellsOf D).toArray 24 (0, 0))) := setRow_heap _ _ _ _ _ _ hL.out
         (try go_frame)
         repeat ((first | refine qtR0 ?_ | refine qtS ?_); go_frame)
         refine seqT_done ?_
         go_wp2_with fail
         go_meet
         exact ⟨gL, rfl, rfl, S1.out, kx.out, zl⟩)
      )
  case rest =>
    obtain ⟨g, rfl, rfl, E1, kr, hg⟩ := hcut
    have b1 := B0.out _ E1
    have r1 := Lib.hid b1.2.1
    have x1 := Lib.hid b1.2.2
    replace kr := Lib.hid kr
    clear b1 B0 JOIN MAC E1
    go_wp2_with (first
      | (refine wpList_load_row rfl 24 _ rfl g rfl 24 (cellsOf D).toArray (0, 0) _ kr.out rfl rfl (by rw [DS]; rfl) ?_; go_frame)
      | (refine wpList_build_as rfl _ _ rfl (cellsOf D).toArray (by simp only [List.map_toArray, List.map_cons, List.map_nil]; exact hbd.out) ?_; go_frame)
      | (refine wpList_store_row rfl 156 _ _ rfl (w.heap.size + 1) (cellsOf D).toArray rfl rfl 156 Z r1.out (by rw [DS]; rfl) (by rw [DS]; exact hz0) D1 ?_; go_frame))
    (try simp only [Exit.inBlock, Exit.then])
    refine bodyPost_ret (results_cell_row rfl _ _ (w.heap.size + 1) 156 (cellsOf D).toArray (0, 0) _ rfl (setRow_heap _ _ _ _ _ _ r1.out) rfl rfl (by rw [DS]; rfl)) rfl ?_
    exact ⟨rfl, below_setRow x1.out (Nat.le_succ _) _⟩
end Go.Proofs.YtmnohmhhmaeljaaDoor
end

section
/-
  What is known of the type of keys. No conditions.
-/
namespace Go.Proofs.YtmnohmhhmaeljaaDoor
open Go.ChangeShapes Go.WideShapes Go.ChangeAt Go.RowKit Go.Deep

theorem infoK : (Tryd.prog.info? 24).map (fun i => (i.zero, i.size, i.bytes)) = some (some (.agg zeros32), 32, 32) := by kernel_rfl
end Go.Proofs.YtmnohmhhmaeljaaDoor
end

section
/-
  commit.Check.
-/
namespace Go.Proofs.YtmnohmhhmaeljaaDoor
open Go.ChangeShapes Go.WideShapes Go.ChangeAt Go.RowKit Go.Deep
set_option maxRecDepth 100000

theorem part_key {w : World} {K : Array Value} (hK : K.size = 32) : (part 24 K 0).run Tryd.prog w = .ok (.agg K) w := by
  obtain ⟨i, hi, hz0, hz1, hz2⟩ := info_parts infoK
  have he : K.extract 0 32 = K := by rw [← hK]; exact Array.extract_size
  simp [part, isAgg, run_underlying Tryd.underlying24, sizeOf, typeInfo, hi, hz1, he]
theorem made_fields : ∃ f : Field, (Tryd.prog.fieldsOf 156).toList = [f] ∧ f.type = 24 ∧ f.offset = 0 ∧ f.name ≠ "_" := by
  have h : ((Tryd.prog.fieldsOf 156).toList.map fun f => (f.name, f.type, f.offset)) = [("key", 24, 0)] := by kernel_rfl
  match hl : (Tryd.prog.fieldsOf 156).toList with
  | [] => rw [hl] at h; simp at h
  | [f] =>
    rw [hl] at h
    simp only [List.map_cons, List.map_nil, List.cons.injEq, and_true, Prod.mk.injEq] at h
    exact ⟨f, rfl, h.2.1, h.2.2, by rw [h.1]; decide⟩
  | f :: g :: r => rw [hl] at h; simp at h
theorem made_equal {xs ys : List UInt8} (hx : xs.length = 32) (hy : ys.length = 32) (w : World) :
    (Op.equalIn 10000 156 (.agg (cellsOf xs).toArray) (.agg (cellsOf ys).toArray)).run Tryd.prog w = .ok (decide (xs = ys)) w := by
  have hX : (cellsOf xs).toArray.size = 32 := by simp [cellsOf_len, hx]
  have hY : (cellsOf ys).toArray.size = 32 := by simp [cellsOf_len, hy]
  have hk : (Op.equalIn 9999 24 (.agg (cellsOf xs).toArray) (.agg (cellsOf ys).toArray)).run Tryd.prog w = .ok (decide (xs = ys)) w := by
    rw [cellsOf_cell, cellsOf_cell, run_equalIn_bytes w 9997 24 5 32 rfl rfl (fun _ => rfl) xs ys hx hy]
    congr 1
    rw [Bool.eq_iff_iff]; simp
  obtain ⟨f, hf, ht, ho, hn⟩ := made_fields
  rw [run_equalIn_struct w 9999 156 _ _ (by kernel_rfl) (by kernel_rfl), hf]
  simp only [Op.eqFields, ht, ho, if_pos hn, Sem.run_bind, part_key hX, part_key hY, Result.andThen_ok, hk]
  cases decide (xs = ys) <;> rfl
theorem made_guard : Tryd.prog.eqGuardType Tryd.prog.depth 156 = false := by kernel_rfl
theorem exec_neq_made {o : Oper} {a : Act} {w : World} {x y : Operand} {t' : TypeId} {xs ys : List UInt8} {b : Bool} (hb : (!decide (xs = ys)) = b) (lx : xs.length = 32) (ly : ys.length = 32) (ho : o.op = .binOp .neq 156 x y t') (hx : a.eval x = .agg (cellsOf xs).toArray) (hy : a.eval y = .agg (cellsOf ys).toArray) :
    (execOp a.eval o).run Tryd.prog w = .ok (.value (.bool b)) w := by
  unfold execOp
  simp only [ho, hx, hy, Sem.run_bind, run_eqGuard_agg _ _ _ _ _ _ _ made_guard, Result.andThen_ok, run_neq_struct, made_equal lx ly, Sem.run_pure, hb]

set_option maxRecDepth 100000 in
set_option maxHeartbeats 1000000 in
theorem check14_calls {A : Option Addr} {n c : Nat} {l : List (List UInt8)} {ks xs : List UInt8} {b : Bool} {w : World} (hk : ks.length = 32) (hx : xs.length = 32) (hb : (!decide (macL ks (joinL l) = xs)) = b) (h : Rw w A n c l) (hm : (joinL l).length ≤ 100000000) {tg : TypeId × Nat × Nat} (hG : Gl w tg) :
    Calls Tryd.prog 62 #[.agg (cellsOf xs).toArray, .agg (cellsOf ks).toArray, .slice A n c] w fun e w' => e = .returned (.int .i64 (if b then 4 else 0)) ∧ Ext w w' := by
  have MADE : Hid (∀ (W : World), Ext w W → Calls Tryd.prog 97 #[.agg (cellsOf ks).toArray, .slice A n c] W fun e w' => e = .returned (.agg (cellsOf (macL ks (joinL l))).toArray) ∧ Ext W w') := fun W e => made_calls hk (h.ext e) hm (hG.kept e hG.lt)
  clear hG h
  have ML := macL_len ks (joinL l)
  generalize macL ks (joinL l) = D at *
  replace hb := Lib.hid hb
  have KS : (cellsOf ks).toArray.size = 32 := by simp [cellsOf_len, hk]
  have XS : (cellsOf xs).toArray.size = 32 := by simp [cellsOf_len, hx]
  have hbd : Hid (Tryd.prog.built 156 [(0, .agg (cellsOf xs).toArray)] = some (cellsOf xs).toArray) := made_built XS
  have B0 : Hid (∀ w', Ext ((w.alloc (Obj.cells (cellsOf xs).toArray 24)).alloc (Obj.cells (cellsOf ks).toArray 24)) w' → Ky w' w.heap.size xs ∧ Ky w' (w.heap.size + 1) ks ∧ Ext w w') := fun w' e => ⟨⟨(e.block _ (by rw [size_alloc, size_alloc]; omega)).trans (heap_alloc1 _ _ _), hx⟩, ⟨(e.block _ (by rw [size_alloc, size_alloc]; omega)).trans (heap_alloc2 _ _ _), hk⟩, (((Ext.refl w).alloc _).alloc _).trans e⟩
  go_enter Tryd.func62, Tryd.ntmps62
  go_upto_region 1 with fail
  refine wp_gen (fun W => ∀ w', Ext W w' → Ky w' w.heap.size xs ∧ Ky w' (w.heap.size + 1) ks ∧ Ext w w') B0.out ?_
  clear B0
  rintro w0 b0
  have B0 := Lib.hid b0
  clear b0
  go_wp2_with fail
  refine qgE [0, 1, 3, 4, 2, 5] [2] ?_
  refine qV rfl (fun w' => w'.heap[(w.heap.size + 1)]? = some (.cells (cellsOf ks).toArray 24 (0, 0))) (fun w' e => (B0.out w' ((Ext.refl _).drew.trans e)).2.1.1) (.agg (cellsOf ks).toArray) (fun w' hF => exec_load_row rfl rfl hF rfl rfl (by rw [KS]; rfl)) ?_
  go_frame
  repeat ((first | refine qR0 ?_ | refine qS ?_); go_frame)
  refine qV rfl (fun w' => w'.heap[w.heap.size]? = some (.cells (cellsOf xs).toArray 24 (0, 0))) (fun w' e => (B0.out w' ((Ext.refl _).drew.trans e)).1.1) (.agg (cellsOf xs).toArray) (fun w' hF => exec_load_row rfl rfl hF rfl rfl (by rw [XS]; rfl)) ?_
  go_frame
  refine qV rfl (fun _ => True) (fun _ _ => trivial) (.agg (cellsOf xs).toArray) (fun w' _ => exec_build_as rfl (by simp only [List.map_toArray, List.map_cons, List.map_nil]; exact hbd.out)) ?_
  go_frame
  refine qD fun K hK => ?_
  go_simp
  refine (MADE.out _ (B0.out _ (Ext.refl _).drew).2.2).mono ?_
  rintro e w1 ⟨rfl, e1⟩
  refine hK.out _ _ e1 ?_
  clear hK K
  try go_frame
  refine qV rfl (fun _ => True) (fun _ _ => trivial) (.bool b) (fun w' _ => exec_neq_made hb.out ML hx rfl rfl rfl) ?_
  go_frame
  refine seq_done ?_
  have E1 : Hid (Ext w w1) := (B0.out _ ((Ext.refl _).drew.trans e1)).2.2
  clear MADE B0 hbd e1 hb
  cases b
  · go_wp2_with fail
    go_ret
    exact ⟨rfl, E1.out⟩
  · go_wp2_with fail
    go_ret
    exact ⟨rfl, E1.out⟩
end Go.Proofs.YtmnohmhhmaeljaaDoor
end
