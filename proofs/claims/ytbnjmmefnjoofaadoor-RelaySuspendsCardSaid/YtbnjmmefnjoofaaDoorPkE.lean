import Derived.Test.YtbnjmmefnjoofaaDoorMp
import Derived.Test.YtbnjmmefnjoofaaDoorMac
import Derived.Test.YtbnjmmefnjoofaaDoorPkO
section
/-
  Maps at the operations of a walk: what is stored, struck, looked up. No conditions.
-/
namespace Go.Proofs.YtbnjmmefnjoofaaDoor
open Go.ChangeShapes Go.WideShapes Go.ChangeAt Go.RowKit Go.Deep Go.Maps

section
variable {P : Program} {ops : Array Oper} {rest : List Oper} {o : Oper} {a : Act} {w w' : World} {K : Act → World → Prop} {Q : Exit → Act → World → Prop} {t k : TypeId} {m x y : Operand} {mv xv yv : Value}
theorem wp_mapUpdate (ho : o.op = .mapUpdate t m x y) (hm : a.eval m = mv) (hx : a.eval x = xv) (hy : a.eval y = yv) (hr : (Instr.mapUpdate t mv xv yv).run P w = .ok () w') (h : K (a.put o.dst undef) w') : o.wp P a w K Q := by
  subst hm
  subst hx
  subst hy
  unfold Oper.wp execOp
  simp only [ho, Sem.run_bind, hr, Result.andThen_ok, Sem.run_pure]
  exact h
theorem wp_delete (ho : o.op = .call { callee := .builtin .delete, args := #[m, x], argTypes := #[t, k] }) (hm : a.eval m = mv) (hx : a.eval x = xv) (hr : (Builtin.delete_ #[t, k] 0 #[mv, xv]).run P w = .ok (.tuple #[]) w') (h : K (a.put o.dst (.tuple #[])) w') : o.wp P a w K Q := by
  subst hm
  subst hx
  replace hr : (Builtin.delete_ #[t, k] o.type #[a.eval m, a.eval x]).run P w = .ok (.tuple #[]) w' := hr
  unfold Oper.wp execOp
  simp only [ho, resolve, invoke, builtin, Sem.run_bind, Sem.run_pure, Result.andThen_ok, List.map_toArray, List.map_cons, List.map_nil, hr]
  exact h
theorem wp_call_len (ho : o.op = .call { callee := .builtin .len, args := #[m], argTypes := #[t] }) {v : Value} (hm : a.eval m = mv) (hr : (Builtin.len_ #[t] o.type #[mv]).run P w = .ok v w') (h : K (a.put o.dst v) w') : o.wp P a w K Q := by
  subst hm
  replace hr : (Builtin.len_ #[t] o.type #[a.eval m]).run P w = .ok v w' := hr
  unfold Oper.wp execOp
  simp only [ho, resolve, invoke, builtin, Sem.run_bind, Sem.run_pure, Result.andThen_ok, List.map_toArray, List.map_cons, List.map_nil, hr]
  exact h
theorem wpList_of_wp (hg : o.guard = none) (h : ∀ K : Act → World → Prop, (∀ a w, wpList P ops Q rest a w → K a w) → o.wp P a w K Q) : wpList P ops Q (o :: rest) a w := wpList_plain hg fun K hK => h K hK
theorem exec_lookup {c : Bool} {v : Value} (ho : o.op = .lookup t m x c) (hm : a.eval m = mv) (hx : a.eval x = xv) (hr : (Instr.lookup t mv xv c).run P w = .ok v w) : (execOp a.eval o).run P w = .ok (.value v) w := by
  subst hm
  subst hx
  unfold execOp
  simp only [ho, Sem.run_bind, hr, Result.andThen_ok, Sem.run_pure]
theorem wpList_range_mp {e : TypeId} {b r : Nat} {E : List (Value × Value)} (hg : o.guard = none) (m : Operand) (hop : o.op = Op.range t m) (Kk : Keyed P k) (ht : P.underlying t = some (.map k e)) (hm : a.eval m = .map (some b)) (h : Mp P k w b E) (hr : w.heap.size = r)
    (hK : ∀ w', Mr P k w' b r E (fun _ => True) E.length → Ext w w' → wpList P ops Q rest (a.put o.dst (.pointer (some ⟨r, 0, none⟩))) w') : wpList P ops Q (o :: rest) a w := by
  subst hr
  refine wpList_plain hg fun K' hK' => ?_
  obtain ⟨w1, r1, r2, r3⟩ := h.range Kk ht
  unfold Oper.wp
  simp [execOp, hop, hm, r1, Result.andThen]
  exact hK' _ _ (hK w1 r2 r3)
theorem wpList_next_mr {α : Type} {L : List α} (kv vv : α → Value) {b r cnt : Nat} {lf : Value → Prop} (hg : o.guard = none) (it : Operand) (hop : o.op = Op.next it false) (Kk : Keyed P k) (hit : a.eval it = .pointer (some ⟨r, 0, none⟩)) (h : Mr P k w b r (L.map fun x => (kv x, vv x)) lf cnt)
    (hDone : (∀ x ∈ L, ¬ lf (kv x)) → wpList P ops Q rest (a.put o.dst (.tuple #[.bool false])) w)
    (hMore : ∀ x ∈ L, lf (kv x) → ∀ w' cnt', Mr P k w' b r (L.map fun x => (kv x, vv x)) (fun key => lf key ∧ key ≠ kv x) cnt' → cnt' < cnt → w.grownBy w' (some r) → w'.heap.size = w.heap.size →
      (Instr.entry (.pointer (some ⟨r, 0, none⟩))).run P w' = .ok (.tuple #[kv x, vv x]) w' → wpList P ops Q rest (a.put o.dst (.tuple #[.bool true, kv x, vv x])) w') :
    wpList P ops Q (o :: rest) a w := by
  refine wpList_plain hg fun K' hK' => ?_
  unfold Oper.wp
  rcases h.next Kk o.type with ⟨h0, hrun⟩ | ⟨p, hp, hlf, w1, cnt1, hrun, hmr, hlt, hgr, hsz, hen⟩
  · simp [execOp, hop, hit, hrun, Result.andThen]
    exact hK' _ _ (hDone fun x hx => h0 _ (List.mem_map.2 ⟨x, hx, rfl⟩))
  · obtain ⟨x, hx, rfl⟩ := List.mem_map.1 hp
    simp [execOp, hop, hit, hrun, Result.andThen]
    exact hK' _ _ (hMore x hx hlf w1 cnt1 hmr hlt hgr hsz hen)
end
end Go.Proofs.YtbnjmmefnjoofaaDoor
end

section
/-
  A store into a map, at a key that is there or not; maps keyed by numbers as functions. No conditions.
-/
namespace Go.Proofs.YtbnjmmefnjoofaaDoor
open Go.ChangeShapes Go.WideShapes Go.ChangeAt Go.RowKit Go.Deep Go.Maps

section
variable {P : Program} {k t e : TypeId} {w w' : World} {b : Nat} {E E' : List (Value × Value)} {D : DataW Value}
theorem keys_len {A B : List (Value × Value)} (a : A.Pairwise fun p q => p.1 ≠ q.1) (h : ∀ p ∈ A, p.1 ∈ B.map (·.1)) : A.length ≤ B.length := by
  have := List.Nodup.length_le_of_subset (l₁ := A.map (·.1)) (l₂ := B.map (·.1)) (by rw [List.Nodup, List.pairwise_map]; exact a) (fun x hx => by
    obtain ⟨p, hp, rfl⟩ := List.mem_map.1 hx
    exact h p hp)
  simpa using this
theorem Vw.store (h : Vw P k D E) (K : Keyed P k) (T : Tidy D) {key v : Value} {kl : Lit} (hk : keyOf P k key = some kl) (ap : E'.Pairwise fun p q => p.1 ≠ q.1) (hm : ∀ p, p ∈ E' ↔ p = (key, v) ∨ (p.1 ≠ key ∧ p ∈ E)) : Vw P k (D.put kl (.held v)) E' := by
  have IK := K.key hk
  refine ⟨ap, ?_, fun p hp => ?_, fun kl' hh => ?_⟩
  · rw [size_put T]
    cases hh : Maps.has D kl
    · have hmiss := h.miss hk hh
      have l1 : E'.length ≤ ((key, v) :: E).length := keys_len ap fun p hp => by
        rcases (hm p).1 hp with rfl | ⟨_, q⟩
        · simp
        · exact List.mem_map.2 ⟨p, List.mem_cons_of_mem _ q, rfl⟩
      have l2 : ((key, v) :: E).length ≤ E'.length := keys_len (List.pairwise_cons.2 ⟨fun q hq z => hmiss q hq z.symm, h.apart⟩) fun p hp => by
        rcases List.mem_cons.1 hp with rfl | hp
        · exact List.mem_map.2 ⟨_, (hm _).2 (.inl rfl), rfl⟩
        · exact List.mem_map.2 ⟨p, (hm p).2 (.inr ⟨hmiss p hp, hp⟩), rfl⟩
      have := h.size
      simp only [List.length_cons] at l1 l2
      simp only [Bool.false_eq_true, if_false]
      omega
    · obtain ⟨v', hv', _⟩ := h.hit K hk hh
      have l1 : E'.length ≤ E.length := keys_len ap fun p hp => by
        rcases (hm p).1 hp with rfl | ⟨_, q⟩
        · exact List.mem_map.2 ⟨_, hv', rfl⟩
        · exact List.mem_map.2 ⟨p, q, rfl⟩
      have l2 : E.length ≤ E'.length := keys_len h.apart fun p hp => by
        by_cases q : p.1 = key
        · rw [q]; exact List.mem_map.2 ⟨_, (hm _).2 (.inl rfl), rfl⟩
        · exact List.mem_map.2 ⟨p, (hm p).2 (.inr ⟨q, hp⟩), rfl⟩
      have := h.size
      simp only [if_true]
      omega
  · rcases (hm p).1 hp with rfl | ⟨q1, q2⟩
    · exact ⟨kl, hk, has_put_same T.isMap IK _, fun z => atKey_put_same T.isMap IK _ z⟩
    · obtain ⟨kl', h1, h2, h3⟩ := h.into p q2
      have hne : kl' ≠ kl := fun z => q1 (K.inj (h1.trans (congrArg some z)) hk)
      exact ⟨kl', h1, by rw [has_put_other hne]; exact h2, fun z => by rw [atKey_put_other hne]; exact h3 z⟩
  · by_cases z : kl' = kl
    · subst z
      exact ⟨(key, v), (hm _).2 (.inl rfl), hk⟩
    · rw [has_put_other z] at hh
      obtain ⟨p, hp, q⟩ := h.back kl' hh
      refine ⟨p, (hm p).2 (.inr ⟨fun r => z ?_, hp⟩), q⟩
      rw [r, hk] at q
      exact (Option.some.inj q).symm
theorem Mp.store (h : Mp P k w b E) (K : Keyed P k) (ht : P.underlying t = some (.map k e)) (hn : E.length < maxLen) {key v : Value} {kl : Lit} (hkey : keyOf P k key = some kl) (ap : E'.Pairwise fun p q => p.1 ≠ q.1) (hm : ∀ p, p ∈ E' ↔ p = (key, v) ∨ (p.1 ≠ key ∧ p ∈ E)) :
    ∃ w', (Instr.mapUpdate t (.map (some b)) key v).run P w = .ok () w' ∧ Mp P k w' b E' ∧ w.grownBy w' (some b) := by
  obtain ⟨D, h, vw⟩ := h
  obtain ⟨w1, r1, r2, r3⟩ := h.update K ht hn hkey (d := .held v) (ps := []) rfl
  exact ⟨w1, r1, Mp.of r2 (vw.store K (h.tidy K) hkey ap hm), r3⟩

/-- The entries of a function on the numbers below m. -/
def entN (m : Nat) (f : Nat → Option Value) : List (Value × Value) := (List.range m).filterMap fun i => (f i).map fun v => (.int .i64 (i : Int), v)
theorem entN_mem {m : Nat} {f : Nat → Option Value} {p : Value × Value} : p ∈ entN m f ↔ ∃ i v, i < m ∧ f i = some v ∧ p = (.int .i64 (i : Int), v) := by
  unfold entN
  rw [List.mem_filterMap]
  constructor
  · rintro ⟨i, hi, hp⟩
    obtain ⟨v, hv, rfl⟩ := Option.map_eq_some_iff.1 hp
    exact ⟨i, v, List.mem_range.1 hi, hv, rfl⟩
  · rintro ⟨i, v, hi, hv, rfl⟩
    exact ⟨i, List.mem_range.2 hi, by rw [hv]; rfl⟩
theorem entN_apart (m : Nat) (f : Nat → Option Value) : (entN m f).Pairwise fun p q => p.1 ≠ q.1 := by
  unfold entN
  rw [List.pairwise_filterMap]
  refine List.nodup_range.imp ?_
  intro i j hij p hp q hq
  obtain ⟨v, _, rfl⟩ := Option.map_eq_some_iff.1 hp
  obtain ⟨v', _, rfl⟩ := Option.map_eq_some_iff.1 hq
  intro z
  injection z with _ z
  exact hij (by omega)
theorem entN_len (m : Nat) (f : Nat → Option Value) : (entN m f).length ≤ m := by
  have := List.length_filterMap_le (fun i => (f i).map fun v => ((.int .i64 (i : Int), v) : Value × Value)) (List.range m)
  rw [List.length_range] at this
  exact this
theorem entN_set {m i : Nat} {f : Nat → Option Value} {v : Value} (hi : i < m) (p : Value × Value) : p ∈ entN m (fun j => if j = i then some v else f j) ↔ p = (.int .i64 (i : Int), v) ∨ (p.1 ≠ .int .i64 (i : Int) ∧ p ∈ entN m f) := by
  rw [entN_mem, entN_mem]
  constructor
  · rintro ⟨j, u, hj, hu, rfl⟩
    by_cases e : j = i
    · subst e
      rw [if_pos rfl] at hu
      exact .inl (by rw [Option.some.inj hu])
    · rw [if_neg e] at hu
      refine .inr ⟨fun z => e ?_, j, u, hj, hu, rfl⟩
      injection z with _ z
      omega
  · rintro (rfl | ⟨h1, j, u, hj, hu, rfl⟩)
    · exact ⟨i, v, hi, if_pos rfl, rfl⟩
    · refine ⟨j, u, hj, ?_, rfl⟩
      rw [if_neg (fun z => h1 (by rw [z]))]
      exact hu
theorem int_key {ki : TypeId} (hk : P.underlying ki = some (.int .i64)) {i : Int} (hi : -9223372036854775808 ≤ i ∧ i ≤ 9223372036854775807) : keyOf P ki (.int .i64 i) = some (.int .i64 i) :=
  keyOf_int_mk hk (WalkArith.wf_i64 hi)
end
end Go.Proofs.YtbnjmmefnjoofaaDoor
end

section
/-
  kdf.Draw.
-/
namespace Go.Proofs.YtbnjmmefnjoofaaDoor
open Go.ChangeShapes Go.WideShapes Go.ChangeAt Go.RowKit Go.Deep

set_option maxRecDepth 100000 in
set_option maxHeartbeats 1000000 in
theorem draw_calls {A : Option Addr} {m d : Nat} {ks bs : List UInt8} {w : World} (hk : ks.length = 32) (h : Bs w A m d bs) {tg : TypeId × Nat × Nat} (hG : Gl w tg) :
    Calls Tryd.prog 40 #[.agg (cellsOf ks).toArray, .slice A m d] w fun e w' => e = .returned (.agg (cellsOf (macL ks bs)).toArray) ∧ Ext w w' := by
  have hal : ∀ w, (zeroValue 23).run Tryd.prog w = .ok (.agg zeros32) w := fun _ => by kernel_rfl
  have HL : (cellsOf (macL ks bs)).toArray.size = 32 := by simp [cellsOf_len, macL_len]
  have H1 := cellsOf_one (macL ks bs)
  have KB : Hid (∀ o, Bs ((w.alloc (Obj.cells (cellsOf ks).toArray 23)).alloc o) (some ⟨w.heap.size, 0, none⟩) 32 32 ks) := fun o => (Ky.bs (Ky.boxed w hk)).ext ((Ext.refl _).alloc _)
  have CALL : Hid (∀ W, Ext w W → Bs W (some ⟨w.heap.size, 0, none⟩) 32 32 ks → Calls Tryd.prog 43 #[.slice (some ⟨w.heap.size, 0, none⟩) 32 32, .slice A m d] W fun e w' => e = .returned (.tuple #[.agg (cellsOf (macL ks bs)).toArray, .int .i64 0]) ∧ Ext W w') :=
    fun W e b => mac_calls b (h.ext e) (by omega) (hG.kept e hG.lt)
  clear hG
  have hz0 := zeros32_size
  generalize zeros32 = Z at *
  generalize (cellsOf (macL ks bs)).toArray = D at *
  generalize (cellsOf ks).toArray = KS at *
  go_enter Tryd.func40, Tryd.ntmps40
  go_wp2_with fail
  refine (CALL.out _ (((Ext.refl w).alloc _).alloc _) (KB.out _)).mono ?_
  rintro e w1 ⟨rfl, e1⟩
  have r0 := Lib.hid ((e1.block (w.heap.size + 1) (by rw [size_alloc, size_alloc]; omega)).trans (heap_alloc2 w (Obj.cells KS 23) (Obj.cells Z 23)))
  have r1 : Hid (((w1.alloc (Obj.cells Z 23)).setRow w1.heap.size D).heap[w.heap.size + 1]? = some (Obj.cells Z 23)) := (setRow_other _ _ _ _ (Nat.ne_of_lt (heap_lt r0.out))).trans (((Ext.refl w1).alloc _ |>.block _ (heap_lt r0.out)).trans r0.out)
  clear CALL KB
  go_wp2_with (first
    | refine wpList_store_row rfl 23 _ _ rfl w1.heap.size D rfl rfl 23 _ (by with_reducible exact heap_alloc_new _ _) (by rw [HL]; rfl) (by rw [HL]; exact hz0) H1 ?_
    | refine wpList_load_row rfl 23 _ rfl w1.heap.size rfl 23 D (0, 0) _ (by with_reducible exact setRow_heap _ _ _ _ _ _ (heap_alloc_new _ _)) rfl rfl (by rw [HL]; rfl) ?_
    | refine wpList_store_row rfl 23 _ _ rfl (w.heap.size + 1) D rfl rfl 23 Z (by with_reducible exact r1.out) (by rw [HL]; rfl) (by rw [HL]; exact hz0) H1 ?_)
  (try simp only [Exit.inBlock, Exit.then])
  refine bodyPost_ret (results_cell_row rfl _ _ (w.heap.size + 1) 23 D (0, 0) _ rfl (setRow_heap _ _ _ _ _ _ r1.out) rfl rfl (by rw [HL]; rfl)) rfl ?_
  exact ⟨rfl, below_setRow (below_setRow (((((Ext.refl w).alloc _).alloc _).trans e1).alloc _) (Nat.le_trans (Nat.le_succ _) (Nat.le_of_lt (heap_lt r0.out))) _) (Nat.le_succ _) _⟩
end Go.Proofs.YtbnjmmefnjoofaaDoor
end
