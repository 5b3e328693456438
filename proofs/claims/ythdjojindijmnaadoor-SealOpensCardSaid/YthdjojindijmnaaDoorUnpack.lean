import Derived.Test.YthdjojindijmnaaDoorPkH
import Derived.Test.YthdjojindijmnaaDoorPkM
import Derived.Test.YthdjojindijmnaaDoorMac
/-
  commit.Unpack.
-/
namespace Go.Proofs.YthdjojindijmnaaDoor
open Go.ChangeShapes Go.WideShapes Go.ChangeAt Go.RowKit Go.Deep
set_option maxRecDepth 100000

theorem results_ctt {P : Program} {fn : Func} {u p v : Tmp} {ty : TypeId} (h : fn.results = #[.cell p ty, .tmp u, .tmp v]) (tmps : Array Value) (w : World) (g : Nat) (t : TypeId) (cs : Array Value) (fr : Nat × Nat) (d : TypeDesc) (x y : Value)
    (hx : tmps.getD u undef = x) (hp : tmps.getD p undef = .pointer (some ⟨g, 0, none⟩)) (hy : tmps.getD v undef = y) (hg : w.heap[g]? = some (.cells cs t fr))
    (hu : P.underlying ty = some d) (hd : (match d with | .struct _ | .array _ _ => true | _ => false) = true) (hi : (P.info? ty).map (·.size) = some cs.size) :
    (results fn tmps).run P w = .ok (.tuple #[.agg cs, x, y]) w := by
  have hp' : tmps[p]?.getD undef = .pointer (some ⟨g, 0, none⟩) := by simpa using hp
  have hx' : tmps[u]?.getD undef = x := by simpa using hx
  have hy' : tmps[v]?.getD undef = y := by simpa using hy
  simp [results, h, hp', hx', hy', asAddr, run_loadVar_row w g t ty cs fr d hg hu hd hi, Sem.run_bind, Result.andThen]

/-- A key is filled from a longer slice. -/
theorem upon_copy_key {o : Oper} {a : Act} {K : Act → World → Prop} {Q : Exit → Act → World → Prop} {W : World} {g dCap : Nat} {cur : Array Value} {t dT sT ty : TypeId} {A : Option Addr} {n c : Nat} {xs : List UInt8} (hu : Tryd.prog.underlying dT = some (.slice 5)) (hg : W.heap[g]? = some (.cells cur t (0, 0))) (h : Bs W A n c xs) (hn : 32 ≤ n) (hc : cur.size = 32)
    (H : Oper.upon Tryd.prog o a K Q (.ok (Next.value (goInt 32)) (W.setRow g (cellsOf (xs.take 32)).toArray))) :
    Oper.upon Tryd.prog o a K Q (((Builtin.copy_ #[dT, sT] ty #[.slice (some ⟨g, 0, none⟩) 32 dCap, .slice A n c]).run Tryd.prog W).andThen fun a w' => .ok (Next.value a) w') := by
  have hl := h.len
  obtain ⟨b, o', rfl, hb, hcl⟩ := h.pos (by omega)
  have hsz : (Tryd.prog.info? 5).map (·.size) = some 1 := rfl
  have hL : (cellsOf (xs.take 32)).length = 32 := by rw [cellsOf_len, List.length_take]; omega
  have hr := run_copy_row Tryd.prog W dT sT ty _ g 0 32 dCap ⟨b, o', none⟩ n c cur t (cellsOf (xs.take 32)) hu hsz hg (by rw [hL]; exact (Nat.min_eq_right hn).symm) (fun j v hv => by
    have hj : j < 32 := by
      have := (List.getElem?_eq_some_iff.1 hv).1
      rwa [hL] at this
    rw [cellsOf_get (by rw [List.length_take]; omega), bt_take hj] at hv
    injection hv with hv
    subst hv
    have : (⟨b, o', none⟩ : Addr).add j = ⟨b, o' + j, none⟩ := by unfold Addr.add; split <;> simp_all
    rw [this]
    exact hcl j (by omega)) (by rw [hL]; omega) (fun v hv => by
    obtain ⟨j, _, rfl⟩ := List.mem_map.1 hv
    rfl)
  have he : (cur.toList.take 0 ++ cellsOf (xs.take 32) ++ cur.toList.drop (0 + (cellsOf (xs.take 32)).length)) = cellsOf (xs.take 32) := by
    rw [hL, List.drop_of_length_le (by simp [hc])]; simp
  rw [he, hL] at hr
  rw [hr]
  exact H

/-- What Unpack tells. -/
def RetUn (ks bs : List UInt8) (er : Int) (w : World) (e : Ending) (w' : World) : Prop := ∃ A n c, e = .returned (.tuple #[.agg (cellsOf ks).toArray, .slice A n c, .int .i64 er]) ∧ Bs w' A n c bs ∧ Ext w w'

set_option maxRecDepth 100000 in
set_option maxHeartbeats 1000000 in
theorem unpack_calls {A : Option Addr} {n c : Nat} {bs : List UInt8} {w : World} (h : Bs w A n c bs) (hn : 32 ≤ n) (hm : n ≤ 100000000) :
    Calls Tryd.prog 19 #[.slice A n c] w (RetUn (bs.take 32) (bs.drop 32) 0 w) := by
  have q1' : decide ((n : Int) < 32) = false := decide_eq_false (by omega)
  have c1 := h.le
  have c2 := h.cap
  have hl := h.len
  have hal := key_alloc
  have hz0 := zeros32_size
  generalize zeros32 = Z at *
  have B0 : Hid (((w.alloc (Obj.cells Z 23)).alloc (Obj.cells Z 23)).heap[w.heap.size]? = some (.cells Z 23 (0, 0)) ∧ ((w.alloc (Obj.cells Z 23)).alloc (Obj.cells Z 23)).heap[w.heap.size + 1]? = some (.cells Z 23 (0, 0)) ∧ Ext w ((w.alloc (Obj.cells Z 23)).alloc (Obj.cells Z 23))) := ⟨heap_alloc1 _ _ _, heap_alloc2 _ _ _, ((Ext.refl w).alloc _).alloc _⟩
  replace h := Lib.hid h
  go_enter Tryd.func19, Tryd.ntmps19
  go_upto_region 4 with fail
  refine wp_gen (fun W => W.heap[w.heap.size]? = some (.cells Z 23 (0, 0)) ∧ W.heap[w.heap.size + 1]? = some (.cells Z 23 (0, 0)) ∧ Ext w W) B0.out ?_
  clear B0
  rintro w0 ⟨b0, b1, e0⟩
  have h0 := Lib.hid (h.out.ext e0)
  replace b0 := Lib.hid b0
  replace b1 := Lib.hid b1
  replace e0 := Lib.hid e0
  go_wp2_with fail
  refine upon_copy_key (xs := bs) rfl b1.out h0.out hn hz0 ?_
  have LT : (bs.take 32).length = 32 := by rw [List.length_take]; omega
  have R1 : Hid ((w0.setRow (w.heap.size + 1) (cellsOf (bs.take 32)).toArray).heap[w.heap.size + 1]? = some (.cells (cellsOf (bs.take 32)).toArray 23 (0, 0))) := setRow_heap _ _ _ _ _ _ b1.out
  have R0 : Hid ((w0.setRow (w.heap.size + 1) (cellsOf (bs.take 32)).toArray).heap[w.heap.size]? = some (.cells Z 23 (0, 0))) := (setRow_other _ _ _ _ (by omega)).trans b0.out
  have E1 : Hid (Ext w (w0.setRow (w.heap.size + 1) (cellsOf (bs.take 32)).toArray)) := below_setRow e0.out (Nat.le_succ _) _
  have H1 : Hid (Bs (w0.setRow (w.heap.size + 1) (cellsOf (bs.take 32)).toArray) A n c bs) := h.out.ext E1.out
  go_upto_region 5 with fail
  refine wp_gen (fun W => W.heap[w.heap.size]? = some (.cells Z 23 (0, 0)) ∧ W.heap[w.heap.size + 1]? = some (.cells (cellsOf (bs.take 32)).toArray 23 (0, 0)) ∧ Bs W A n c bs ∧ Ext w W) ⟨R0.out, R1.out, H1.out, E1.out⟩ ?_
  clear R0 R1 E1 H1 b0 b1 e0 h0 h
  rintro w1 ⟨r0, r1, h1, e1⟩
  have z1 := heap_lt r1
  have CUT := Lib.hid (h1.cut (k := 32) hn)
  replace r0 := Lib.hid r0
  replace r1 := Lib.hid r1
  replace e1 := Lib.hid e1
  clear h1
  have KS : (cellsOf (bs.take 32)).toArray.size = 32 := by simp [cellsOf_len, hl]; omega
  have K1 := cellsOf_one (bs.take 32)
  have R1 : Hid (∀ w', w1.grownBy w' (some w.heap.size) → w'.heap[w.heap.size + 1]? = some (.cells (cellsOf (bs.take 32)).toArray 23 (0, 0))) := fun w' e => (e.block _ z1 (fun q => by injection q with q; omega)).trans r1.out
  generalize bs.take 32 = hd at *
  generalize bs.drop 32 = tl at *
  refine wp_region_seq (R := fun a b => a.grownBy b (some w.heap.size)) (fun w => World.grownBy.refl w _) (fun _ _ _ => gr_trans) [0, 1, 2, 3, 4, 5, 6] [3, 4] [(0, 14, 64), (0, 15, 2), (2, 16, 32768), (4, 17, 65536), (9, 0, 16392), (31, 4, 131072), (63, 5, 0)] (by kernel_rfl) (by kernel_rfl) (by kernel_rfl) rfl (by kernel_rfl) (by kernel_rfl) (fun _ _ d _ _ h => by cases d <;> exact h) ?_
  refine seq_read (fun w' => w'.heap[(w.heap.size + 1)]? = some (.cells (cellsOf hd).toArray 23 (0, 0))) (fun w' e => R1.out w' (gr_trans (gr_ext (Ext.refl _).drew _) e)) _ (v := .agg (cellsOf hd).toArray) rfl rfl (by rfl) (fun w' hF => exec_load_row rfl rfl hF rfl rfl (by rw [KS]; rfl)) ?_
  simp only [Act.put, List.setIfInBounds_toArray, List.set_cons_zero, List.set_cons_succ]
  iterate 1 (first | (refine seq_read (fun _ => True) (fun _ _ => trivial) _ (v := ?_) rfl rfl (by rfl) ?_ ?_; rotate_left; (· intro w' hF; go_simp; (try with_reducible rfl)); simp only [Act.put, List.setIfInBounds_toArray, List.set_cons_zero, List.set_cons_succ]) | (refine seq_skip _ rfl rfl (by rfl) ?_; simp only [Act.put, List.setIfInBounds_toArray, List.set_cons_zero, List.set_cons_succ]))
  refine seq_read (fun _ => True) (fun _ _ => trivial) _ (v := .slice (if c = 32 then A else A.map (·.add 32)) (n - 32) (c - 32)) rfl rfl (by rfl) (fun w' _ => exec_from rfl rfl rfl hn c1) ?_
  simp only [Act.put, List.setIfInBounds_toArray, List.set_cons_zero, List.set_cons_succ]
  have CUT' := Lib.hid (CUT.out.ext (Ext.refl w1).drew)
  have r0' : Hid (w1.drew.heap[w.heap.size]? = some (.cells Z 23 (0, 0))) := r0.out
  have e1' : Hid (Ext w w1.drew) := e1.out.drew
  have o0 := Lib.hid (Own.nil w1.drew.heap.size w1.drew)
  have zz : w.heap.size < w1.drew.heap.size := heap_lt r0'.out
  clear CUT r0 e1 R1 r1
  generalize w1.drew = W at *
  refine seq_do _ rfl rfl (by rfl) (fun K hK => ?_)
  refine wp_append_bs (B := W.heap.size) rfl rfl rfl o0.out CUT'.out (by omega) (Nat.le_refl _) ?_
  intro A3 c3 w3 o3 g3 b3
  have x3 : Ext W w3 := b3
  refine hK.out _ _ (gr_ext x3 _) ?_
  clear hK K
  try simp only [Act.put, List.setIfInBounds_toArray, List.set_cons_zero, List.set_cons_succ]
  have r3 := Lib.hid ((x3.block _ zz).trans r0'.out)
  have E3 : Hid (Ext w w3) := e1'.out.trans x3
  replace o3 := Lib.hid o3
  clear g3 b3 x3 CUT' o0
  refine seq_do _ rfl rfl (by rfl) (fun K hK => ?_)
  refine wp_store_row _ _ _ rfl w.heap.size (cellsOf hd).toArray rfl rfl 23 Z r3.out (by rw [KS]; rfl) (by rw [KS]; exact hz0) K1 ?_
  refine hK.out _ _ (gr_row _ _ _) ?_
  clear hK K
  try simp only [Act.put, List.setIfInBounds_toArray, List.set_cons_zero, List.set_cons_succ]
  repeat (first | (refine seq_read (fun _ => True) (fun _ _ => trivial) _ (v := ?_) rfl rfl (by rfl) ?_ ?_; rotate_left; (· intro w' hF; go_simp; (try with_reducible rfl)); simp only [Act.put, List.setIfInBounds_toArray, List.set_cons_zero, List.set_cons_succ]) | (refine seq_skip _ rfl rfl (by rfl) ?_; simp only [Act.put, List.setIfInBounds_toArray, List.set_cons_zero, List.set_cons_succ]))
  refine seq_done ?_
  go_wp2_with fail
  all_goals
    (try simp only [Exit.inBlock, Exit.then])
    refine bodyPost_ret (v := .tuple #[.agg (cellsOf hd).toArray, .slice A3 (n - 32) c3, .int .i64 0]) ?_ rfl ?_
    · exact results_ctt rfl _ _ w.heap.size 23 (cellsOf hd).toArray (0, 0) _ _ _ rfl rfl rfl (setRow_heap _ _ _ _ _ _ r3.out) rfl rfl (by rw [KS]; rfl)
    · have hb := (o3.out.kept (gr_row w3 w.heap.size (cellsOf hd).toArray) (.inr (fun q => by have := o3.out.ge _ q; omega))).bs
      rw [Nat.zero_add] at hb
      exact ⟨A3, n - 32, c3, rfl, hb, below_setRow E3.out (Nat.le_refl _) _⟩
end Go.Proofs.YthdjojindijmnaaDoor
