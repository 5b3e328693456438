import Derived.Test.YtmnohmhhmaeljaaDoorPkI
import Derived.Test.YtmnohmhhmaeljaaDoorMac
import Derived.Test.YtmnohmhhmaeljaaDoorKeyEq
import Derived.Test.YtmnohmhhmaeljaaDoorPkJ
import Derived.Laws.ResultCell
import Derived.Test.YtmnohmhhmaeljaaDoorMid
section
/-
  Maps at the operations of a walk: what is stored, struck, looked up. No conditions.
-/
namespace Go.Proofs.YtmnohmhhmaeljaaDoor
open Go.ChangeShapes Go.WideShapes Go.ChangeAt Go.RowKit Go.Deep Go.Maps

section
variable {P : Program} {ops : Array Oper} {rest : List Oper} {o : Oper} {a : Act} {w w' : World} {K : Act → World → Prop} {Q : Exit → Act → World → Prop} {t k : TypeId} {m x y : Operand} {mv xv yv : Value}
theorem wp_mapUpdate (ho : o.op = .mapUpdate t m x y) (hm : a.eval m = mv) (hx : a.eval x = xv) (hy : a.eval y = yv) (hr : (Instr.mapUpdate t mv xv yv).run P w = .ok () w') (h : K (a.put o.dst undef) w') : o.wp P a w K Q := by
  subst hm
  subst hx
  subst hy
  unfold Oper.wp execOp
  simp only [ho, Sem.run_bind, hr, Result.andThen_ok, Sem.run_pure]
  exact h
theorem wp_delete (ho : o.op = .call { callee := .builtin .delete, args := #[m, x], argTypes := #[t, k] }) (hm : a.eval m = mv) (hx : a.eval x = xv) (hr : (Builtin.delete_ #[t, k] 0 #[mv, xv]).run P w = .ok (.tuple #[]) w') (h : K (a.put o.dst (.tuple #[])) w') : o.wp P a w K Q := by
  subst hm
  subst hx
  replace hr : (Builtin.delete_ #[t, k] o.type #[a.eval m, a.eval x]).run P w = .ok (.tuple #[]) w' := hr
  unfold Oper.wp execOp
  simp only [ho, resolve, invoke, builtin, Sem.run_bind, Sem.run_pure, Result.andThen_ok, List.map_toArray, List.map_cons, List.map_nil, hr]
  exact h
theorem wp_call_len (ho : o.op = .call { callee := .builtin .len, args := #[m], argTypes := #[t] }) {v : Value} (hm : a.eval m = mv) (hr : (Builtin.len_ #[t] o.type #[mv]).run P w = .ok v w') (h : K (a.put o.dst v) w') : o.wp P a w K Q := by
  subst hm
  replace hr : (Builtin.len_ #[t] o.type #[a.eval m]).run P w = .ok v w' := hr
  unfold Oper.wp execOp
  simp only [ho, resolve, invoke, builtin, Sem.run_bind, Sem.run_pure, Result.andThen_ok, List.map_toArray, List.map_cons, List.map_nil, hr]
  exact h
theorem wpList_of_wp (hg : o.guard = none) (h : ∀ K : Act → World → Prop, (∀ a w, wpList P ops Q rest a w → K a w) → o.wp P a w K Q) : wpList P ops Q (o :: rest) a w := wpList_plain hg fun K hK => h K hK
theorem exec_lookup {c : Bool} {v : Value} (ho : o.op = .lookup t m x c) (hm : a.eval m = mv) (hx : a.eval x = xv) (hr : (Instr.lookup t mv xv c).run P w = .ok v w) : (execOp a.eval o).run P w = .ok (.value v) w := by
  subst hm
  subst hx
  unfold execOp
  simp only [ho, Sem.run_bind, hr, Result.andThen_ok, Sem.run_pure]
theorem wpList_range_mp {e : TypeId} {b r : Nat} {E : List (Value × Value)} (hg : o.guard = none) (m : Operand) (hop : o.op = Op.range t m) (Kk : Keyed P k) (ht : P.underlying t = some (.map k e)) (hm : a.eval m = .map (some b)) (h : Mp P k w b E) (hr : w.heap.size = r)
    (hK : ∀ w', Mr P k w' b r E (fun _ => True) E.length → Ext w w' → wpList P ops Q rest (a.put o.dst (.pointer (some ⟨r, 0, none⟩))) w') : wpList P ops Q (o :: rest) a w := by
  subst hr
  refine wpList_plain hg fun K' hK' => ?_
  obtain ⟨w1, r1, r2, r3⟩ := h.range Kk ht
  unfold Oper.wp
  simp [execOp, hop, hm, r1, Result.andThen]
  exact hK' _ _ (hK w1 r2 r3)
theorem wpList_next_mr {α : Type} {L : List α} (kv vv : α → Value) {b r cnt : Nat} {lf : Value → Prop} (hg : o.guard = none) (it : Operand) (hop : o.op = Op.next it false) (Kk : Keyed P k) (hit : a.eval it = .pointer (some ⟨r, 0, none⟩)) (h : Mr P k w b r (L.map fun x => (kv x, vv x)) lf cnt)
    (hDone : (∀ x ∈ L, ¬ lf (kv x)) → wpList P ops Q rest (a.put o.dst (.tuple #[.bool false])) w)
    (hMore : ∀ x ∈ L, lf (kv x) → ∀ w' cnt', Mr P k w' b r (L.map fun x => (kv x, vv x)) (fun key => lf key ∧ key ≠ kv x) cnt' → cnt' < cnt → w.grownBy w' (some r) → w'.heap.size = w.heap.size →
      (Instr.entry (.pointer (some ⟨r, 0, none⟩))).run P w' = .ok (.tuple #[kv x, vv x]) w' → wpList P ops Q rest (a.put o.dst (.tuple #[.bool true, kv x, vv x])) w') :
    wpList P ops Q (o :: rest) a w := by
  refine wpList_plain hg fun K' hK' => ?_
  unfold Oper.wp
  rcases h.next Kk o.type with ⟨h0, hrun⟩ | ⟨p, hp, hlf, w1, cnt1, hrun, hmr, hlt, hgr, hsz, hen⟩
  · simp [execOp, hop, hit, hrun, Result.andThen]
    exact hK' _ _ (hDone fun x hx => h0 _ (List.mem_map.2 ⟨x, hx, rfl⟩))
  · obtain ⟨x, hx, rfl⟩ := List.mem_map.1 hp
    simp [execOp, hop, hit, hrun, Result.andThen]
    exact hK' _ _ (hMore x hx hlf w1 cnt1 hmr hlt hgr hsz hen)
end
end Go.Proofs.YtmnohmhhmaeljaaDoor
end

section
/-
  A store into a map, at a key that is there or not; maps keyed by numbers as functions. No conditions.
-/
namespace Go.Proofs.YtmnohmhhmaeljaaDoor
open Go.ChangeShapes Go.WideShapes Go.ChangeAt Go.RowKit Go.Deep Go.Maps

section
variable {P : Program} {k t e : TypeId} {w w' : World} {b : Nat} {E E' : List (Value × Value)} {D : DataW Value}
theorem keys_len {A B : List (Value × Value)} (a : A.Pairwise fun p q => p.1 ≠ q.1) (h : ∀ p ∈ A, p.1 ∈ B.map (·.1)) : A.length ≤ B.length := by
  have := List.Nodup.length_le_of_subset (l₁ := A.map (·.1)) (l₂ := B.map (·.1)) (by rw [List.Nodup, List.pairwise_map]; exact a) (fun x hx => by
    obtain ⟨p, hp, rfl⟩ := List.mem_map.1 hx
    exact h p hp)
  simpa using this
theorem Vw.store (h : Vw P k D E) (K : Keyed P k) (T : Tidy D) {key v : Value} {kl : Lit} (hk : keyOf P k key = some kl) (ap : E'.Pairwise fun p q => p.1 ≠ q.1) (hm : ∀ p, p ∈ E' ↔ p = (key, v) ∨ (p.1 ≠ key ∧ p ∈ E)) : Vw P k (D.put kl (.held v)) E' := by
  have IK := K.key hk
  refine ⟨ap, ?_, fun p hp => ?_, fun kl' hh => ?_⟩
  · rw [size_put T]
    cases hh : Maps.has D kl
    · have hmiss := h.miss hk hh
      have l1 : E'.length ≤ ((key, v) :: E).length := keys_len ap fun p hp => by
        rcases (hm p).1 hp with rfl | ⟨_, q⟩
        · simp
        · exact List.mem_map.2 ⟨p, List.mem_cons_of_mem _ q, rfl⟩
      have l2 : ((key, v) :: E).length ≤ E'.length := keys_len (List.pairwise_cons.2 ⟨fun q hq z => hmiss q hq z.symm, h.apart⟩) fun p hp => by
        rcases List.mem_cons.1 hp with rfl | hp
        · exact List.mem_map.2 ⟨_, (hm _).2 (.inl rfl), rfl⟩
        · exact List.mem_map.2 ⟨p, (hm p).2 (.inr ⟨hmiss p hp, hp⟩), rfl⟩
      have := h.size
      simp only [List.length_cons] at l1 l2
      simp only [Bool.false_eq_true, if_false]
      omega
    · obtain ⟨v', hv', _⟩ := h.hit K hk hh
      have l1 : E'.length ≤ E.length := keys_len ap fun p hp => by
        rcases (hm p).1 hp with rfl | ⟨_, q⟩
        · exact List.mem_map.2 ⟨_, hv', rfl⟩
        · exact List.mem_map.2 ⟨p, q, rfl⟩
      have l2 : E.length ≤ E'.length := keys_len h.apart fun p hp => by
        by_cases q : p.1 = key
        · rw [q]; exact List.mem_map.2 ⟨_, (hm _).2 (.inl rfl), rfl⟩
        · exact List.mem_map.2 ⟨p, (hm p).2 (.inr ⟨q, hp⟩), rfl⟩
      have := h.size
      simp only [if_true]
      omega
  · rcases (hm p).1 hp with rfl | ⟨q1, q2⟩
    · exact ⟨kl, hk, has_put_same T.isMap IK _, fun z => atKey_put_same T.isMap IK _ z⟩
    · obtain ⟨kl', h1, h2, h3⟩ := h.into p q2
      have hne : kl' ≠ kl := fun z => q1 (K.inj (h1.trans (congrArg some z)) hk)
      exact ⟨kl', h1, by rw [has_put_other hne]; exact h2, fun z => by rw [atKey_put_other hne]; exact h3 z⟩
  · by_cases z : kl' = kl
    · subst z
      exact ⟨(key, v), (hm _).2 (.inl rfl), hk⟩
    · rw [has_put_other z] at hh
      obtain ⟨p, hp, q⟩ := h.back kl' hh
      refine ⟨p, (hm p).2 (.inr ⟨fun r => z ?_, hp⟩), q⟩
      rw [r, hk] at q
      exact (Option.some.inj q).symm
theorem Mp.store (h : Mp P k w b E) (K : Keyed P k) (ht : P.underlying t = some (.map k e)) (hn : E.length < maxLen) {key v : Value} {kl : Lit} (hkey : keyOf P k key = some kl) (ap : E'.Pairwise fun p q => p.1 ≠ q.1) (hm : ∀ p, p ∈ E' ↔ p = (key, v) ∨ (p.1 ≠ key ∧ p ∈ E)) :
    ∃ w', (Instr.mapUpdate t (.map (some b)) key v).run P w = .ok () w' ∧ Mp P k w' b E' ∧ w.grownBy w' (some b) := by
  obtain ⟨D, h, vw⟩ := h
  obtain ⟨w1, r1, r2, r3⟩ := h.update K ht hn hkey (d := .held v) (ps := []) rfl
  exact ⟨w1, r1, Mp.of r2 (vw.store K (h.tidy K) hkey ap hm), r3⟩

/-- The entries of a function on the numbers below m. -/
def entN (m : Nat) (f : Nat → Option Value) : List (Value × Value) := (List.range m).filterMap fun i => (f i).map fun v => (.int .i64 (i : Int), v)
theorem entN_mem {m : Nat} {f : Nat → Option Value} {p : Value × Value} : p ∈ entN m f ↔ ∃ i v, i < m ∧ f i = some v ∧ p = (.int .i64 (i : Int), v) := by
  unfold entN
  rw [List.mem_filterMap]
  constructor
  · rintro ⟨i, hi, hp⟩
    obtain ⟨v, hv, rfl⟩ := Option.map_eq_some_iff.1 hp
    exact ⟨i, v, List.mem_range.1 hi, hv, rfl⟩
  · rintro ⟨i, v, hi, hv, rfl⟩
    exact ⟨i, List.mem_range.2 hi, by rw [hv]; rfl⟩
theorem entN_apart (m : Nat) (f : Nat → Option Value) : (entN m f).Pairwise fun p q => p.1 ≠ q.1 := by
  unfold entN
  rw [List.pairwise_filterMap]
  refine List.nodup_range.imp ?_
  intro i j hij p hp q hq
  obtain ⟨v, _, rfl⟩ := Option.map_eq_some_iff.1 hp
  obtain ⟨v', _, rfl⟩ := Option.map_eq_some_iff.1 hq
  intro z
  injection z with _ z
  exact hij (by omega)
theorem entN_len (m : Nat) (f : Nat → Option Value) : (entN m f).length ≤ m := by
  have := List.length_filterMap_le (fun i => (f i).map fun v => ((.int .i64 (i : Int), v) : Value × Value)) (List.range m)
  rw [List.length_range] at this
  exact this
theorem entN_set {m i : Nat} {f : Nat → Option Value} {v : Value} (hi : i < m) (p : Value × Value) : p ∈ entN m (fun j => if j = i then some v else f j) ↔ p = (.int .i64 (i : Int), v) ∨ (p.1 ≠ .int .i64 (i : Int) ∧ p ∈ entN m f) := by
  rw [entN_mem, entN_mem]
  constructor
  · rintro ⟨j, u, hj, hu, rfl⟩
    by_cases e : j = i
    · subst e
      rw [if_pos rfl] at hu
      exact .inl (by rw [Option.some.inj hu])
    · rw [if_neg e] at hu
      refine .inr ⟨fun z => e ?_, j, u, hj, hu, rfl⟩
      injection z with _ z
      omega
  · rintro (rfl | ⟨h1, j, u, hj, hu, rfl⟩)
    · exact ⟨i, v, hi, if_pos rfl, rfl⟩
    · refine ⟨j, u, hj, ?_, rfl⟩
      rw [if_neg (fun z => h1 (by rw [z]))]
      exact hu
theorem int_key {ki : TypeId} (hk : P.underlying ki = some (.int .i64)) {i : Int} (hi : -9223372036854775808 ≤ i ∧ i ≤ 9223372036854775807) : keyOf P ki (.int .i64 i) = some (.int .i64 i) :=
  keyOf_int_mk hk (WalkArith.wf_i64 hi)
end
end Go.Proofs.YtmnohmhhmaeljaaDoor
end

section
/-
  kdf.Draw.
-/
namespace Go.Proofs.YtmnohmhhmaeljaaDoor
open Go.ChangeShapes Go.WideShapes Go.ChangeAt Go.RowKit Go.Deep

set_option maxRecDepth 100000 in
set_option maxHeartbeats 1000000 in
theorem draw_calls {A : Option Addr} {m d : Nat} {ks bs : List UInt8} {w : World} (hk : ks.length = 32) (h : Bs w A m d bs) {tg : TypeId × Nat × Nat} (hG : Gl w tg) :
    Calls Tryd.prog 77 #[.agg (cellsOf ks).toArray, .slice A m d] w fun e w' => e = .returned (.agg (cellsOf (macL ks bs)).toArray) ∧ Ext w w' := by
  have hal : ∀ w, (zeroValue 24).run Tryd.prog w = .ok (.agg zeros32) w := fun _ => by kernel_rfl
  have HL : (cellsOf (macL ks bs)).toArray.size = 32 := by simp [cellsOf_len, macL_len]
  have H1 := cellsOf_one (macL ks bs)
  have KB : Hid (∀ o, Bs ((w.alloc (Obj.cells (cellsOf ks).toArray 24)).alloc o) (some ⟨w.heap.size, 0, none⟩) 32 32 ks) := fun o => (Ky.bs (Ky.boxed w hk)).ext ((Ext.refl _).alloc _)
  have CALL : Hid (∀ W, Ext w W → Bs W (some ⟨w.heap.size, 0, none⟩) 32 32 ks → Calls Tryd.prog 79 #[.slice (some ⟨w.heap.size, 0, none⟩) 32 32, .slice A m d] W fun e w' => e = .returned (.tuple #[.agg (cellsOf (macL ks bs)).toArray, .int .i64 0]) ∧ Ext W w') :=
    fun W e b => mac_calls b (h.ext e) (by omega) (hG.kept e hG.lt)
  clear hG
  have hz0 := zeros32_size
  generalize zeros32 = Z at *
  generalize (cellsOf (macL ks bs)).toArray = D at *
  generalize (cellsOf ks).toArray = KS at *
  go_enter Tryd.func77, Tryd.ntmps77
  go_wp2_with fail
  refine (CALL.out _ (((Ext.refl w).alloc _).alloc _) (KB.out _)).mono ?_
  rintro e w1 ⟨rfl, e1⟩
  have r0 := Lib.hid ((e1.block (w.heap.size + 1) (by rw [size_alloc, size_alloc]; omega)).trans (heap_alloc2 w (Obj.cells KS 24) (Obj.cells Z 24)))
  have r1 : Hid (((w1.alloc (Obj.cells Z 24)).setRow w1.heap.size D).heap[w.heap.size + 1]? = some (Obj.cells Z 24)) := (setRow_other _ _ _ _ (Nat.ne_of_lt (heap_lt r0.out))).trans (((Ext.refl w1).alloc _ |>.block _ (heap_lt r0.out)).trans r0.out)
  clear CALL KB
  go_wp2_with (first
    | refine wpList_store_row rfl 24 _ _ rfl w1.heap.size D rfl rfl 24 _ (by with_reducible exact heap_alloc_new _ _) (by rw [HL]; rfl) (by rw [HL]; exact hz0) H1 ?_
    | refine wpList_load_row rfl 24 _ rfl w1.heap.size rfl 24 D (0, 0) _ (by with_reducible exact setRow_heap _ _ _ _ _ _ (heap_alloc_new _ _)) rfl rfl (by rw [HL]; rfl) ?_
    | refine wpList_store_row rfl 24 _ _ rfl (w.heap.size + 1) D rfl rfl 24 Z (by with_reducible exact r1.out) (by rw [HL]; rfl) (by rw [HL]; exact hz0) H1 ?_)
  (try simp only [Exit.inBlock, Exit.then])
  refine bodyPost_ret (results_cell_row rfl _ _ (w.heap.size + 1) 24 D (0, 0) _ rfl (setRow_heap _ _ _ _ _ _ r1.out) rfl rfl (by rw [HL]; rfl)) rfl ?_
  exact ⟨rfl, below_setRow (below_setRow (((((Ext.refl w).alloc _).alloc _).trans e1).alloc _) (Nat.le_trans (Nat.le_succ _) (Nat.le_of_lt (heap_lt r0.out))) _) (Nat.le_succ _) _⟩
end Go.Proofs.YtmnohmhhmaeljaaDoor
end

section
/-
  stamp.New, what it creates keys with; the state of a relay; key.
-/
namespace Go.Proofs.YtmnohmhhmaeljaaDoor
open Go.ChangeShapes Go.WideShapes Go.ChangeAt Go.RowKit Go.Deep Go.Maps
set_option maxRecDepth 100000

theorem key_alloc16 (w : World) : (zeroValue 24).run Tryd.prog w = .ok (.agg zeros32) w := by kernel_rfl
theorem int_law16 : Keyed Tryd.prog 3 := int_keyed Tryd.underlying3
/-- A relay at block g: its map at block b, its root at block q. -/
structure SR (w : World) (g b q : Nat) (root : List UInt8) (ticks : Nat) (E : List (Value × Value)) : Prop where
  cb : Cb w g 139 [.int .i64 (ticks : Int), .map (some b), .func (.func 76) #[] #[.pointer (some ⟨q, 0, none⟩)]]
  kr : Ky w q root
  mp : Mp Tryd.prog 3 w b E
  en : ∀ p ∈ E, ∃ e : Nat, p = (.int .i64 (e : Int), .agg (cellsOf (ekL root e)).toArray)
section
variable {w w' : World} {g b q ticks : Nat} {root : List UInt8} {E : List (Value × Value)}
theorem SR.stay (h : SR w g b q root ticks E) (hg : w'.heap[g]? = w.heap[g]?) (hq : w'.heap[q]? = w.heap[q]?) (hb : w'.heap[b]? = w.heap[b]?) : SR w' g b q root ticks E := ⟨hg.trans h.cb, ⟨hq.trans h.kr.1, h.kr.2⟩, h.mp.stay hb, h.en⟩
theorem SR.ext (h : SR w g b q root ticks E) (x : Ext w w') : SR w' g b q root ticks E := h.stay (x.block _ h.cb.lt) (x.block _ (heap_lt h.kr.1)) (x.block _ h.mp.lt)
theorem SR.gb (h : SR w g b q root ticks E) : g ≠ b := fun e => by
  obtain ⟨es, c, z⟩ := h.mp.obj
  have h1 := h.cb
  unfold Cb at h1
  rw [e, z] at h1
  cases h1
theorem SR.qb (h : SR w g b q root ticks E) : q ≠ b := fun e => by
  obtain ⟨es, c, z⟩ := h.mp.obj
  have h1 := h.kr.1
  rw [e, z] at h1
  cases h1
end
theorem snew16_bad {w : World} {root : List UInt8} {z : Int} (h : z < 1 ∨ 1000000 < z) : Calls Tryd.prog 36 #[.agg (cellsOf root).toArray, .int .i64 z] w fun e w' => e = .returned (.tuple #[.pointer none, .int .i64 1]) ∧ Ext w w' := by
  have X := Lib.hid ((Ext.refl w).alloc (.cells (cellsOf root).toArray 24))
  by_cases h1 : z < 1
  · have u1 : decide (z < 1) = true := decide_eq_true h1
    clear h
    go_enter Tryd.func36, Tryd.ntmps36
    go_wp2_with fail
    go_ret2
    exact ⟨rfl, X.out⟩
  · have u1 : decide (z < 1) = false := decide_eq_false h1
    have h2 : 1000000 < z := h.resolve_left h1
    have u2 : decide (1000000 < z) = true := decide_eq_true h2
    clear h
    go_enter Tryd.func36, Tryd.ntmps36
    go_wp2_with fail
    go_ret2
    exact ⟨rfl, X.out⟩
theorem snew16_ok {w : World} {root : List UInt8} {n : Nat} (lr : root.length = 32) (n1 : 1 ≤ n) (n6 : n ≤ 1000000) :
    Calls Tryd.prog 36 #[.agg (cellsOf root).toArray, .int .i64 (n : Int)] w fun e w' => ∃ (g b q : Nat), e = .returned (.tuple #[.pointer (some ⟨g, 0, none⟩), .int .i64 0]) ∧ (w.heap.size ≤ g ∧ w.heap.size ≤ b ∧ w.heap.size ≤ q) ∧ SR w' g b q root n [] ∧ Ext w w' := by
  have u1 : decide ((n : Int) < 1) = false := decide_eq_false (by omega)
  have u2 : decide (1000000 < (n : Int)) = false := decide_eq_false (by omega)
  have hmm := @run_makeMap Tryd.prog
  have hmf : ∀ (fn : Fn) (first cap : Array Value) (w : World), (Instr.makeFunc fn first cap).run Tryd.prog w = .ok (.func fn first cap) w := fun _ _ _ _ => rfl
  obtain ⟨C, hC⟩ : ∃ C, C = cellsOf root := ⟨_, rfl⟩
  rw [← hC]
  have hb : Hid (∀ b q : Nat, Tryd.prog.built 139 [(0, .int .i64 (n : Int)), (1, .map (some b)), (2, .func (.func 76) #[] #[.pointer (some ⟨q, 0, none⟩)])] = some #[.int .i64 (n : Int), .map (some b), .func (.func 76) #[] #[.pointer (some ⟨q, 0, none⟩)]]) := fun b q => by kernel_rfl
  have FIN : Hid (SR (((w.alloc (.cells C.toArray 24)).alloc (.map #[] 0)).alloc (.cells #[.int .i64 (n : Int), .map (some (w.heap.size + 1)), .func (.func 76) #[] #[.pointer (some ⟨w.heap.size, 0, none⟩)]] 139)) (w.heap.size + 1 + 1) (w.heap.size + 1) w.heap.size root n [] ∧ Ext w (((w.alloc (.cells C.toArray 24)).alloc (.map #[] 0)).alloc (.cells #[.int .i64 (n : Int), .map (some (w.heap.size + 1)), .func (.func 76) #[] #[.pointer (some ⟨w.heap.size, 0, none⟩)]] 139))) := by
    have m1 := Mp.made (w.alloc (.cells C.toArray 24)) Tryd.prog 3
    rw [show (w.alloc (.cells C.toArray 24)).heap.size = w.heap.size + 1 by simp] at m1
    have c1 := Cb.new ((w.alloc (.cells C.toArray 24)).alloc (.map #[] 0)) 139 [.int .i64 (n : Int), .map (some (w.heap.size + 1)), .func (.func 76) #[] #[.pointer (some ⟨w.heap.size, 0, none⟩)]]
    rw [show ((w.alloc (.cells C.toArray 24)).alloc (.map #[] 0)).heap.size = w.heap.size + 1 + 1 by simp] at c1
    refine ⟨⟨c1, ⟨?_, lr⟩, m1.ext ((Ext.refl _).alloc _), fun p hp => by cases hp⟩, (((Ext.refl w).alloc _).alloc _).alloc _⟩
    rw [← hC]
    exact (Cb.new w 24 C).ext (((Ext.refl _).alloc _).alloc _)
  replace hC := Lib.hid (fun _ : Unit => hC)
  go_enter Tryd.func36, Tryd.ntmps36
  go_wp2_with (refine wpList_build_as rfl _ _ rfl #[.int .i64 (n : Int), .map (some (w.heap.size + 1)), .func (.func 76) #[] #[.pointer (some ⟨w.heap.size, 0, none⟩)]] (by simp only [List.map_toArray, List.map_cons, List.map_nil]; exact hb.out _ _) ?_; go_frame)
  go_ret2
  exact ⟨_, _, _, rfl, ⟨by omega, by omega, Nat.le_refl _⟩, FIN.out⟩
set_option maxHeartbeats 2000000 in
theorem create16_calls {w : World} {q ep : Nat} {root : List UInt8} (hk : Ky w q root) (he : ep ≤ 1000000) {tg : TypeId × Nat × Nat} (hG : Gl w tg) :
    Calls Tryd.prog 76 #[.int .i64 (ep : Int), .pointer (some ⟨q, 0, none⟩)] w fun e w' => e = .returned (.agg (cellsOf (ekL root ep)).toArray) ∧ Ext w w' := by
  have H4 : Hid (∀ (W : World), Calls Tryd.prog 45 #[.int .u64 (ep : Int), .int .i64 4] W (RetBs (hiB ep 4) W)) := fun W => high_calls (by omega) (by omega) (by omega) (by omega) rfl
  have DR : Hid (∀ (W : World) (A : Option Addr) (m d : Nat), Ext w W → Bs W A m d (hiB ep 4) → Calls Tryd.prog 77 #[.agg (cellsOf root).toArray, .slice A m d] W fun e w' => e = .returned (.agg (cellsOf (ekL root ep)).toArray) ∧ Ext W w') := fun W A m d e b => draw_calls hk.2 b (hG.kept e hG.lt)
  have u1 : IntKind.u64.wrap (ep : Int) = (ep : Int) := IntWalk.u64_in _ (by omega)
  have L_e : (ekL root ep).length = 32 := macL_len _ _
  have S_r := hk.size
  have hal := key_alloc16
  have S_Z := zeros32_size
  clear hG
  generalize ekL root ep = ek at *
  generalize hiB ep 4 = h4 at *
  have S_e : (cellsOf ek).toArray.size = 32 := by simp [cellsOf_len, L_e]
  have O_e := cellsOf_one ek
  generalize zeros32 = Z at *
  have ql := heap_lt hk.1
  have B0 : Hid (Ky (w.alloc (.cells Z 24)) q root ∧ (w.alloc (.cells Z 24)).heap[w.heap.size]? = some (.cells Z 24 (0, 0)) ∧ Ext w (w.alloc (.cells Z 24))) := ⟨hk.ext ((Ext.refl w).alloc _), heap_alloc_new _ _, (Ext.refl w).alloc _⟩
  go_enter Tryd.func76, Tryd.ntmps76
  go_upto_region 1 with fail
  refine wp_gen (fun W => Ky W q root ∧ W.heap[w.heap.size]? = some (.cells Z 24 (0, 0)) ∧ Ext w W) B0.out ?_
  obtain ⟨g3, hg3⟩ : ∃ g, g = w.heap.size := ⟨_, rfl⟩
  rw [← hg3]
  rw [← hg3] at ql
  have wg3 : w.heap.size ≤ g3 := Nat.le_of_eq hg3.symm
  replace hg3 := Lib.hid hg3
  clear B0 hk
  rintro w0 ⟨k0, z0, x0⟩
  have z0l := heap_lt z0
  have F1 : Hid (∀ s, Below g3 w0.drew s → s.heap[q]? = some (.cells (cellsOf root).toArray 24 (0, 0))) := fun s e => (e.block q ql).trans k0.1
  have z1 : Hid (w0.drew.heap[g3]? = some (.cells Z 24 (0, 0))) := z0
  have x1 : Hid (Ext w w0.drew) := x0.drew
  have z1l : Hid (g3 ≤ w0.drew.heap.size) := Nat.le_of_lt z0l
  clear k0 z0 x0 z0l
  refine qgB g3 [0, 1, 2, 3, 4, 5] [3, 4, 5] ?_
  generalize w0.drew = W at *
  refine qV rfl (fun w' => w'.heap[q]? = some (.cells (cellsOf root).toArray 24 (0, 0))) (fun w' e => F1.out w' e) (.agg (cellsOf root).toArray) (fun w' hF => exec_load_row rfl rfl hF rfl rfl (by rw [S_r]; rfl)) ?_
  go_frame
  repeat ((first | refine qR0 ?_ | refine qS ?_); go_frame)
  refine qD fun K hK => ?_
  go_simp
  refine (H4.out _).mono ?_
  rintro e w1 ⟨A1, n1, m1, rfl, b1, e1⟩
  have D1 := Lib.hid (DR.out w1 A1 n1 m1 (x1.out.trans e1) b1)
  refine hK.out _ _ (Below.mono e1 z1l.out) ?_
  clear hK K
  try go_frame
  have z2 : Hid (w1.heap[g3]? = some (.cells Z 24 (0, 0))) := (e1.block _ (heap_lt z1.out)).trans z1.out
  have x2 : Hid (Ext w w1) := x1.out.trans e1
  have z2l : Hid (g3 ≤ w1.heap.size) := Nat.le_trans z1l.out e1.size
  clear H4 DR F1 b1 e1 z1 x1 z1l
  refine qD fun K hK => ?_
  go_simp
  refine D1.out.mono ?_
  rintro e w2 ⟨rfl, e2⟩
  refine hK.out _ _ (Below.mono e2 z2l.out) ?_
  clear hK K
  try go_frame
  have z3 : Hid (w2.heap[g3]? = some (.cells Z 24 (0, 0))) := (e2.block _ (heap_lt z2.out)).trans z2.out
  have x3 : Hid (Ext w w2) := x2.out.trans e2
  clear D1 e2 z2 x2 z2l
  refine qD fun K hK => ?_
  refine wp_store_row _ _ _ rfl g3 (cellsOf ek).toArray rfl rfl 24 Z z3.out (by rw [S_e]; rfl) (by rw [S_e, S_Z]) O_e ?_
  refine hK.out _ _ (below_setRow (Below.refl _ _) (Nat.le_refl _) _) ?_
  clear hK K
  try simp only [Act.put]
  refine seq_done ?_
  have F : Hid (Ext w (w2.setRow g3 (cellsOf ek).toArray)) := below_setRow x3.out wg3 _
  go_wp2_with fail
  (try simp only [Exit.inBlock, Exit.then])
  refine bodyPost_ret (results_cell_row rfl _ _ g3 24 (cellsOf ek).toArray (0, 0) _ rfl (setRow_heap _ _ _ _ _ _ z3.out) rfl rfl (by rw [S_e]; rfl)) rfl ?_
  exact ⟨rfl, F.out⟩
end Go.Proofs.YtmnohmhhmaeljaaDoor
end

section
/-
  (*stamp.Relay).key.
-/
namespace Go.Proofs.YtmnohmhhmaeljaaDoor
open Go.ChangeShapes Go.WideShapes Go.ChangeAt Go.RowKit Go.Deep Go.Maps
set_option maxRecDepth 100000

theorem wpList_lookup_mp16 {P : Program} {ops : Array Oper} {rest : List Oper} {o : Oper} {a : Act} {w : World} {Q : Exit → Act → World → Prop} {c : Bool} {t : TypeId} {mv xv v : Value} (hg : o.guard = none) (m x : Operand) (hop : o.op = Op.lookup t m x c) (hm : a.eval m = mv) (hx : a.eval x = xv)
    (hr : (Instr.lookup t mv xv c).run P w = .ok v w) (h : wpList P ops Q rest (a.put o.dst v) w) : wpList P ops Q (o :: rest) a w := by
  refine wpList_plain hg fun K' hK' => ?_
  unfold Oper.wp
  simp [execOp, hop, hm, hx, hr, Result.andThen]
  exact hK' _ _ h
theorem SR.look {w : World} {g b q ticks : Nat} {root : List UInt8} {E : List (Value × Value)} (h : SR w g b q root ticks E) {ep : Nat} (he : ep ≤ 1000000) :
    ((Instr.lookup 137 (.map (some b)) (.int .i64 (ep : Int)) true).run Tryd.prog w = .ok (.tuple #[.agg (cellsOf (ekL root ep)).toArray, .bool true]) w) ∨
    ((∀ p ∈ E, p.1 ≠ .int .i64 (ep : Int)) ∧ (Instr.lookup 137 (.map (some b)) (.int .i64 (ep : Int)) true).run Tryd.prog w = .ok (.tuple #[.agg zeros32, .bool false]) w) := by
  rcases h.mp.look int_law16 Tryd.underlying137 (key_alloc16 w) (int_key Tryd.underlying3 (i := (ep : Int)) (by omega)) with ⟨v, h1, h2, _⟩ | ⟨h1, h2, _⟩
  · left
    obtain ⟨e, z⟩ := h.en _ h1
    injection z with z1 z2
    injection z1 with _ z1
    obtain rfl : ep = e := by omega
    rw [h2, z2]
  · exact .inr ⟨h1, h2⟩
theorem SR.add {w : World} {g b q ticks : Nat} {root : List UInt8} {E : List (Value × Value)} (h : SR w g b q root ticks E) {ep : Nat} (he : ep ≤ 1000000) (hE : E.length ≤ 1000000) (hn : ∀ p ∈ E, p.1 ≠ .int .i64 (ep : Int)) :
    ∃ w', (Instr.mapUpdate 137 (.map (some b)) (.int .i64 (ep : Int)) (.agg (cellsOf (ekL root ep)).toArray)).run Tryd.prog w = .ok () w' ∧ SR w' g b q root ticks (E ++ [(.int .i64 (ep : Int), .agg (cellsOf (ekL root ep)).toArray)]) ∧ w.grownBy w' (some b) := by
  obtain ⟨w1, r1, r2, r3, _⟩ := h.mp.add int_law16 Tryd.underlying137 (by unfold maxLen; omega) (int_key Tryd.underlying3 (i := (ep : Int)) (by omega)) hn (.agg (cellsOf (ekL root ep)).toArray)
  refine ⟨w1, r1, ⟨(r3.block _ h.cb.lt (fun z => h.gb (Option.some.inj z))).trans h.cb, ⟨(r3.block _ (heap_lt h.kr.1) (fun z => h.qb (Option.some.inj z))).trans h.kr.1, h.kr.2⟩, r2, fun p hp => ?_⟩, r3⟩
  rcases List.mem_append.1 hp with z | z
  · exact h.en p z
  · exact ⟨ep, List.mem_singleton.1 z⟩
set_option maxHeartbeats 4000000 in
theorem key16_calls {w : World} {g mb q ticks ep : Nat} {root : List UInt8} {E : List (Value × Value)} (h : SR w g mb q root ticks E) (he : ep ≤ 1000000) (hE : E.length ≤ 1000000) {tg : TypeId × Nat × Nat} (hG : Gl w tg) :
    Calls Tryd.prog 86 #[.pointer (some ⟨g, 0, none⟩), .int .i64 (ep : Int)] w fun e w' => e = .returned (.agg (cellsOf (ekL root ep)).toArray) ∧ (∃ E', SR w' g mb q root ticks E' ∧ E'.length ≤ E.length + 1) ∧ w.grownBy w' (some mb) := by
  have CR := Lib.hid (fun (W : World) (x : Ext w W) => create16_calls (ep := ep) ((h.ext x).kr) he (hG.kept x hG.lt))
  have LK := Lib.hid (fun (W : World) (x : Ext w W) => (h.ext x).look he)
  have AD := Lib.hid (fun (W : World) (x : Ext w W) hn => (h.ext x).add he hE hn)
  have SE : Hid (∀ s, Ext w s → SR s g mb q root ticks E) := fun s x => h.ext x
  have L_e : (ekL root ep).length = 32 := macL_len _ _
  have hal := key_alloc16
  have S_Z := zeros32_size
  have O_Z : zeros32.all (·.oneCell') = true := by kernel_rfl
  have gl := h.cb.lt
  have bl := h.mp.lt
  have ql := heap_lt h.kr.1
  have gnb := h.gb
  clear hG h
  generalize ekL root ep = ek at *
  have S_e : (cellsOf ek).toArray.size = 32 := by simp [cellsOf_len, L_e]
  have O_e := cellsOf_one ek
  generalize zeros32 = Z at *
  obtain ⟨g4, hg4⟩ : ∃ q, q = w.heap.size := ⟨_, rfl⟩
  have B0 : Hid ((w.alloc (.cells Z 24)).heap[g4]? = some (.cells Z 24 (0, 0)) ∧ Ext w (w.alloc (.cells Z 24))) := by rw [hg4]; exact ⟨heap_alloc_new _ _, (Ext.refl w).alloc _⟩
  replace hg4 := Lib.hid hg4
  go_enter Tryd.func86, Tryd.ntmps86
  go_upto_region 1 with fail
  refine wp_gen (fun W => W.heap[g4]? = some (.cells Z 24 (0, 0)) ∧ Ext w W) B0.out ?_
  rw [← hg4.out]
  have wg4 : w.heap.size ≤ g4 := Nat.le_of_eq hg4.out.symm
  clear B0 hg4
  rintro w0 ⟨z4, x0⟩
  have s0 := SE.out w0 x0
  have c1 : w0.cell? ⟨g, 1, none⟩ = some (.map (some mb)) := s0.cb.cell rfl
  have z4l := heap_lt z4
  clear s0
  rcases LK.out w0 x0 with hit | ⟨hn, miss⟩
  · have K5 : Hid (((w0.alloc (.cells Z 24)).setRow w0.heap.size (cellsOf ek).toArray).heap[w0.heap.size]? = some (.cells (cellsOf ek).toArray 24 (0, 0)) ∧ ((w0.alloc (.cells Z 24)).setRow w0.heap.size (cellsOf ek).toArray).heap[g4]? = some (.cells Z 24 (0, 0)) ∧ Ext w ((w0.alloc (.cells Z 24)).setRow w0.heap.size (cellsOf ek).toArray)) :=
      ⟨setRow_heap _ _ _ _ _ _ (heap_alloc_new _ _), ((Ext.newRow w0 _ _).block _ z4l).trans z4, x0.trans (Ext.newRow _ _ _)⟩
    clear CR LK AD x0
    go_upto_region 2 with (first
      | (refine wpList_lookup_mp16 rfl _ _ rfl rfl rfl hit ?_; go_frame)
      | (refine wpList_store_row rfl 24 _ _ rfl w0.heap.size (cellsOf ek).toArray rfl rfl 24 Z (heap_alloc_new _ _) (by rw [S_e]; rfl) (by rw [S_e, S_Z]) O_e ?_; simp only [Act.put]))
    refine wp_gen (fun W => W.heap[w0.heap.size]? = some (.cells (cellsOf ek).toArray 24 (0, 0)) ∧ W.heap[g4]? = some (.cells Z 24 (0, 0)) ∧ Ext w W) K5.out ?_
    generalize w0.heap.size = g5 at *
    clear K5 hit c1 z4 w0
    rintro w1 ⟨k5, z4, x1⟩
    have F : Hid (SR (w1.setRow g4 (cellsOf ek).toArray) g mb q root ticks E ∧ w.grownBy (w1.setRow g4 (cellsOf ek).toArray) (some mb)) := by
      have x : Ext w (w1.setRow g4 (cellsOf ek).toArray) := below_setRow x1 wg4 _
      exact ⟨SE.out _ x, ⟨x.os, x.tape, x.output, x.size, fun i hi _ => x.block i hi⟩⟩
    clear SE x1
    go_wp2_with (first
      | ((with_reducible refine wpList_load_rowW (o := ⟨some 30, _, _, _, _, _⟩) ?_ 24 _ rfl g5 ?_ 24 (cellsOf ek).toArray (0, 0) _ ?_ Tryd.underlying24 ?_ ?_ ?_); (· rfl); (· rfl); (· exact k5); (· rfl); (· rw [S_e]; rfl); go_frame)
      | (refine wpList_store_row rfl 24 _ _ rfl g4 (cellsOf ek).toArray rfl rfl 24 Z z4 (by rw [S_e]; rfl) (by rw [S_e, S_Z]) O_e ?_; simp only [Act.put]))
    (try simp only [Exit.inBlock, Exit.then])
    refine bodyPost_ret (results_cell_row rfl _ _ g4 24 (cellsOf ek).toArray (0, 0) _ rfl (setRow_heap _ _ _ _ _ _ z4) rfl rfl (by rw [S_e]; rfl)) rfl ?_
    exact ⟨rfl, ⟨E, F.out.1, by omega⟩, F.out.2⟩
  · have K5 : Hid (((w0.alloc (.cells Z 24)).setRow w0.heap.size Z).heap[w0.heap.size]? = some (.cells Z 24 (0, 0)) ∧ ((w0.alloc (.cells Z 24)).setRow w0.heap.size Z).heap[g4]? = some (.cells Z 24 (0, 0)) ∧ Ext w ((w0.alloc (.cells Z 24)).setRow w0.heap.size Z)) :=
      ⟨setRow_heap _ _ _ _ _ _ (heap_alloc_new _ _), ((Ext.newRow w0 _ _).block _ z4l).trans z4, x0.trans (Ext.newRow _ _ _)⟩
    have w5 : w.heap.size ≤ w0.heap.size := x0.size
    clear LK x0
    go_upto_region 2 with (first
      | (refine wpList_lookup_mp16 rfl _ _ rfl rfl rfl miss ?_; go_frame)
      | (refine wpList_store_row rfl 24 _ _ rfl w0.heap.size Z rfl rfl 24 Z (heap_alloc_new _ _) (by rw [S_Z]; rfl) (by rw [S_Z]) O_Z ?_; simp only [Act.put]))
    refine wp_gen (fun W => W.heap[w0.heap.size]? = some (.cells Z 24 (0, 0)) ∧ W.heap[g4]? = some (.cells Z 24 (0, 0)) ∧ Ext w W) K5.out ?_
    generalize w0.heap.size = g5 at *
    clear K5 miss c1 z4 w0
    rintro w1 ⟨z5, z4, x1⟩
    have s1 := SE.out w1 x1
    have c2 : w1.cell? ⟨g, 2, none⟩ = some (.func (.func 76) #[] #[.pointer (some ⟨q, 0, none⟩)]) := s1.cb.cell rfl
    have C1 := Lib.hid (CR.out w1 x1)
    replace z5 := Lib.hid z5
    replace z4 := Lib.hid z4
    replace x1 := Lib.hid x1
    have g45 : g4 ≠ g5 := Nat.ne_of_lt z4l
    clear CR s1
    go_wp2_with fail
    refine C1.out.mono ?_
    rintro e w2 ⟨rfl, x2⟩
    have k5 : w2.heap[g5]? = some (.cells Z 24 (0, 0)) := (x2.block _ (heap_lt z5.out)).trans z5.out
    have k4 : w2.heap[g4]? = some (.cells Z 24 (0, 0)) := (x2.block _ (heap_lt z4.out)).trans z4.out
    have K6 : Hid ((w2.setRow g5 (cellsOf ek).toArray).heap[g5]? = some (.cells (cellsOf ek).toArray 24 (0, 0)) ∧ (w2.setRow g5 (cellsOf ek).toArray).heap[g4]? = some (.cells Z 24 (0, 0)) ∧ Ext w (w2.setRow g5 (cellsOf ek).toArray)) :=
      ⟨setRow_heap _ _ _ _ _ _ k5, (setRow_other _ _ _ _ g45).trans k4, below_setRow (x1.out.trans x2) w5 _⟩
    clear C1 x1 x2 z5 z4 k4 c2
    go_upto_region 4 with (refine wpList_store_row rfl 24 _ _ rfl g5 (cellsOf ek).toArray rfl rfl 24 Z k5 (by rw [S_e]; rfl) (by rw [S_e, S_Z]) O_e ?_; simp only [Act.put])
    refine wp_gen (fun W => W.heap[g5]? = some (.cells (cellsOf ek).toArray 24 (0, 0)) ∧ W.heap[g4]? = some (.cells Z 24 (0, 0)) ∧ Ext w W) K6.out ?_
    clear K6 k5 w2
    rintro w3 ⟨k5, z4, x3⟩
    have g5b : g5 ≠ mb := by omega
    have g4b : g4 ≠ mb := by omega
    have A3 := Lib.hid (AD.out w3.drew x3.drew hn)
    have T3 : Hid (∀ s, w3.drew.grownBy s (some mb) → s.cell? ⟨g, 1, none⟩ = some (.map (some mb)) ∧ s.heap[g5]? = some (.cells (cellsOf ek).toArray 24 (0, 0)) ∧ s.heap[g4]? = some (.cells Z 24 (0, 0)) ∧ w.grownBy s (some mb)) := fun s e => by
      have hb : ∀ i, i < w3.heap.size → i ≠ mb → s.heap[i]? = w3.heap[i]? := fun i hi hne => e.block i hi (fun q => hne (Option.some.inj q))
      have s3 := SE.out w3 x3
      refine ⟨(World.cell?_of_block (hb g s3.cb.lt gnb)).trans (s3.cb.cell rfl), (hb _ (heap_lt k5) g5b).trans k5, (hb _ (heap_lt z4) g4b).trans z4, ⟨e.os.trans x3.os, e.tape.trans x3.tape, e.output.trans x3.output, Nat.le_trans x3.size e.size, fun i hi hne => (e.block i (Nat.lt_of_lt_of_le hi x3.size) hne).trans (x3.block i hi)⟩⟩
    clear AD SE k5 z4 x3
    refine qgW mb [0, 1, 2, 3, 4, 5, 6] [6] ?_
    generalize w3.drew = W at *
    repeat ((first | refine qR _ (fun w' e => (T3.out w' e).1) ?_ | refine qS ?_); go_frame)
    refine qV rfl (fun w' => w'.heap[g5]? = some (.cells (cellsOf ek).toArray 24 (0, 0))) (fun w' e => (T3.out w' e).2.1) (.agg (cellsOf ek).toArray) (fun w' hF => exec_load_row rfl rfl hF rfl rfl (by rw [S_e]; rfl)) ?_
    go_frame
    refine qD fun K hK => ?_
    obtain ⟨w4, d1, d2, d3⟩ := A3.out
    refine wp_mapUpdate rfl rfl rfl rfl d1 ?_
    refine hK.out _ _ d3 ?_
    clear hK K
    try simp only [Act.put]
    repeat ((first | refine qR0 ?_ | refine qS ?_); go_frame)
    refine seq_done ?_
    obtain ⟨_, k5, z4, gr⟩ := T3.out w4 d3
    have F : Hid ((∃ E', SR (w4.setRow g4 (cellsOf ek).toArray) g mb q root ticks E' ∧ E'.length ≤ E.length + 1) ∧ w.grownBy (w4.setRow g4 (cellsOf ek).toArray) (some mb)) := by
      have g4g : g4 ≠ g := by omega
      have q4 : q ≠ g4 := by omega
      refine ⟨⟨_, d2.stay (setRow_other _ _ _ _ (fun z => g4g z.symm)) (setRow_other _ _ _ _ q4) (setRow_other _ _ _ _ (fun z => g4b z.symm)), by simp⟩, ?_⟩
      exact ⟨gr.os, gr.tape, gr.output, by simpa using gr.size, fun i hi hne => (setRow_other _ _ _ _ (by omega)).trans (gr.block i hi hne)⟩
    clear T3 A3 d1 d2 d3 gr
    go_wp2_with (first
      | ((with_reducible refine wpList_load_rowW (o := ⟨some 30, _, _, _, _, _⟩) ?_ 24 _ rfl g5 ?_ 24 (cellsOf ek).toArray (0, 0) _ ?_ Tryd.underlying24 ?_ ?_ ?_); (· rfl); (· rfl); (· exact k5); (· rfl); (· rw [S_e]; rfl); go_frame)
      | (refine wpList_store_row rfl 24 _ _ rfl g4 (cellsOf ek).toArray rfl rfl 24 Z z4 (by rw [S_e]; rfl) (by rw [S_e, S_Z]) O_e ?_; simp only [Act.put]))
    (try simp only [Exit.inBlock, Exit.then])
    refine bodyPost_ret (results_cell_row rfl _ _ g4 24 (cellsOf ek).toArray (0, 0) _ rfl (setRow_heap _ _ _ _ _ _ z4) rfl rfl (by rw [S_e]; rfl)) rfl ?_
    exact ⟨rfl, F.out.1, F.out.2⟩
end Go.Proofs.YtmnohmhhmaeljaaDoor
end

section
/-
  Results that are two keys; regions in which two blocks turn.
-/
namespace Go.Proofs.YtmnohmhhmaeljaaDoor
open Go.ChangeShapes Go.WideShapes Go.ChangeAt Go.RowKit Go.Deep

theorem results_rr {P : Program} {fn : Func} {p q : Tmp} {ty : TypeId} (h : fn.results = #[.cell p ty, .cell q ty]) (tmps : Array Value) (w : World) (g g' : Nat) (t t' : TypeId) (cs cs' : Array Value) (fr fr' : Nat × Nat) (d : TypeDesc)
    (hp : tmps.getD p undef = .pointer (some ⟨g, 0, none⟩)) (hq : tmps.getD q undef = .pointer (some ⟨g', 0, none⟩)) (hg : w.heap[g]? = some (.cells cs t fr)) (hg' : w.heap[g']? = some (.cells cs' t' fr'))
    (hu : P.underlying ty = some d) (hd : (match d with | .struct _ | .array _ _ => true | _ => false) = true) (hi : (P.info? ty).map (·.size) = some cs.size) (hi' : (P.info? ty).map (·.size) = some cs'.size) :
    (results fn tmps).run P w = .ok (.tuple #[.agg cs, .agg cs']) w := by
  have hp' : tmps[p]?.getD undef = .pointer (some ⟨g, 0, none⟩) := by simpa using hp
  have hq' : tmps[q]?.getD undef = .pointer (some ⟨g', 0, none⟩) := by simpa using hq
  simp [results, h, hp', hq', asAddr, run_loadVar_row w g t ty cs fr d hg hu hd hi, run_loadVar_row w g' t' ty cs' fr' d hg' hu hd hi', Sem.run_bind, Result.andThen]
theorem results_trt {P : Program} {fn : Func} {u p v : Tmp} {ty : TypeId} (h : fn.results = #[.tmp u, .cell p ty, .tmp v]) (tmps : Array Value) (w : World) (g : Nat) (t : TypeId) (cs : Array Value) (fr : Nat × Nat) (d : TypeDesc) (x y : Value)
    (hx : tmps.getD u undef = x) (hp : tmps.getD p undef = .pointer (some ⟨g, 0, none⟩)) (hy : tmps.getD v undef = y) (hg : w.heap[g]? = some (.cells cs t fr))
    (hu : P.underlying ty = some d) (hd : (match d with | .struct _ | .array _ _ => true | _ => false) = true) (hi : (P.info? ty).map (·.size) = some cs.size) :
    (results fn tmps).run P w = .ok (.tuple #[x, .agg cs, y]) w := by
  have hp' : tmps[p]?.getD undef = .pointer (some ⟨g, 0, none⟩) := by simpa using hp
  have hx' : tmps[u]?.getD undef = x := by simpa using hx
  have hy' : tmps[v]?.getD undef = y := by simpa using hy
  simp [results, h, hp', hx', hy', asAddr, run_loadVar_row w g t ty cs fr d hg hu hd hi, Sem.run_bind, Result.andThen]

/-- Only blocks g and g' turn. -/
def Two (g g' : Nat) (a b : World) : Prop := b.os = a.os ∧ b.tape = a.tape ∧ b.output = a.output ∧ a.heap.size ≤ b.heap.size ∧ ∀ i, i < a.heap.size → i ≠ g → i ≠ g' → b.heap[i]? = a.heap[i]?
theorem Two.refl (g g' : Nat) (w : World) : Two g g' w w := ⟨rfl, rfl, rfl, Nat.le_refl _, fun _ _ _ _ => rfl⟩
theorem Two.trans {g g' : Nat} {a b c : World} (h : Two g g' a b) (k : Two g g' b c) : Two g g' a c :=
  ⟨k.1.trans h.1, k.2.1.trans h.2.1, k.2.2.1.trans h.2.2.1, Nat.le_trans h.2.2.2.1 k.2.2.2.1, fun i hi h1 h2 => (k.2.2.2.2 i (Nat.lt_of_lt_of_le hi h.2.2.2.1) h1 h2).trans (h.2.2.2.2 i hi h1 h2)⟩
theorem Two.of_ext {g g' : Nat} {a b : World} (h : Ext a b) : Two g g' a b := ⟨h.os, h.tape, h.output, h.size, fun i hi _ _ => h.block i hi⟩
theorem Two.row {g g' : Nat} (w : World) (C : Array Value) : Two g g' w (w.setRow g C) := ⟨rfl, rfl, rfl, by simp, fun i _ h1 _ => setRow_other _ _ _ _ h1⟩
theorem Two.row' {g g' : Nat} (w : World) (C : Array Value) : Two g g' w (w.setRow g' C) := ⟨rfl, rfl, rfl, by simp, fun i _ _ h1 => setRow_other _ _ _ _ h1⟩
theorem Two.ext {g g' : Nat} {w0 a b : World} (h : Ext w0 a) (k : Two g g' a b) (h1 : w0.heap.size ≤ g) (h2 : w0.heap.size ≤ g') : Ext w0 b :=
  Below.trans h ⟨k.1, k.2.1, k.2.2.1, k.2.2.2.1, fun i hi => k.2.2.2.2 i (Nat.lt_of_lt_of_le hi h.size) (by omega) (by omega)⟩
theorem Two.block {g g' i : Nat} {a b : World} (k : Two g g' a b) {o : Obj} (h : a.heap[i]? = some o) (h1 : i ≠ g) (h2 : i ≠ g') : b.heap[i]? = some o := (k.2.2.2.2 i (heap_lt h) h1 h2).trans h
end Go.Proofs.YtmnohmhhmaeljaaDoor
end

section
/-
  Worlds in which just some blocks turn. No conditions.
-/
namespace Go.Proofs.YtmnohmhhmaeljaaDoor
open Go.ChangeShapes Go.WideShapes Go.ChangeAt Go.RowKit Go.Deep

/-- Only blocks of p turn. -/
def Ot (p : Nat → Prop) (a b : World) : Prop := b.os = a.os ∧ b.tape = a.tape ∧ b.output = a.output ∧ a.heap.size ≤ b.heap.size ∧ ∀ i, i < a.heap.size → ¬ p i → b.heap[i]? = a.heap[i]?
section
variable {p q : Nat → Prop} {a b c : World}
theorem Ot.refl (p : Nat → Prop) (w : World) : Ot p w w := ⟨rfl, rfl, rfl, Nat.le_refl _, fun _ _ _ => rfl⟩
theorem Ot.trans (h : Ot p a b) (k : Ot p b c) : Ot p a c :=
  ⟨k.1.trans h.1, k.2.1.trans h.2.1, k.2.2.1.trans h.2.2.1, Nat.le_trans h.2.2.2.1 k.2.2.2.1, fun i hi hp => (k.2.2.2.2 i (Nat.lt_of_lt_of_le hi h.2.2.2.1) hp).trans (h.2.2.2.2 i hi hp)⟩
theorem Ot.mono (h : Ot p a b) (k : ∀ i, i < a.heap.size → p i → q i) : Ot q a b := ⟨h.1, h.2.1, h.2.2.1, h.2.2.2.1, fun i hi hn => h.2.2.2.2 i hi fun z => hn (k i hi z)⟩
theorem Ot.of_ext (h : Ext a b) : Ot p a b := ⟨h.os, h.tape, h.output, h.size, fun i hi _ => h.block i hi⟩
theorem Ot.of_two {g g' : Nat} (h : Two g g' a b) (h1 : p g) (h2 : p g') : Ot p a b := ⟨h.1, h.2.1, h.2.2.1, h.2.2.2.1, fun i hi hn => h.2.2.2.2 i hi (fun z => hn (z ▸ h1)) (fun z => hn (z ▸ h2))⟩
theorem Ot.of_grown {g : Nat} (h : a.grownBy b (some g)) (h1 : p g) : Ot p a b := ⟨h.os, h.tape, h.output, h.size, fun i hi hn => h.block i hi (fun z => hn (Option.some.inj z ▸ h1))⟩
theorem Ot.size (h : Ot p a b) : a.heap.size ≤ b.heap.size := h.2.2.2.1
theorem Ot.drew (h : Ot p a b) : Ot p a b.drew := h
theorem Ot.same {i : Nat} (h : Ot p a b) (hi : i < a.heap.size) (hp : ¬ p i) : b.heap[i]? = a.heap[i]? := h.2.2.2.2 i hi hp
theorem Ot.block {i : Nat} {o : Obj} (h : Ot p a b) (hi : a.heap[i]? = some o) (hp : ¬ p i) : b.heap[i]? = some o := (h.2.2.2.2 i (heap_lt hi) hp).trans hi
theorem Ot.ext {w0 : World} (h : Ext w0 a) (k : Ot p a b) (hp : ∀ i, p i → w0.heap.size ≤ i) : Ext w0 b :=
  Below.trans h ⟨k.1, k.2.1, k.2.2.1, k.2.2.2.1, fun i hi => k.2.2.2.2 i (Nat.lt_of_lt_of_le hi h.size) (fun z => by have := hp i z; omega)⟩
/-- What the call did to blocks that were new to it does not count. -/
theorem Ot.cell (w : World) {g : Nat} (o : Nat) (v : Value) (h : p g) : Ot p w (w.setCell ⟨g, o, none⟩ v) := ⟨rfl, rfl, rfl, by simp [World.setCell], fun i _ hn => Below.heap_setCell _ _ _ _ (fun z => hn (z ▸ h))⟩
theorem Ot.row (w : World) {g : Nat} (C : Array Value) (h : p g) : Ot p w (w.setRow g C) := ⟨rfl, rfl, rfl, by simp, fun i _ hn => setRow_other _ _ _ _ (fun z => hn (z ▸ h))⟩
theorem Ot.newRow (w : World) {g : Nat} {w2 : World} (h : Ot p w w2) (hg : w.heap.size ≤ g) (C : Array Value) : Ot p w (w2.setRow g C) := ⟨h.1, h.2.1, h.2.2.1, by simpa using h.2.2.2.1, fun i hi hn => (setRow_other _ _ _ _ (by omega)).trans (h.2.2.2.2 i hi hn)⟩
theorem Ot.newCell (w : World) {g : Nat} {w2 : World} (h : Ot p w w2) (hg : w.heap.size ≤ g) (o : Nat) (v : Value) : Ot p w (w2.setCell ⟨g, o, none⟩ v) := ⟨h.1, h.2.1, h.2.2.1, by simpa [World.setCell] using h.2.2.2.1, fun i hi hn => (Below.heap_setCell _ _ _ _ (fun z => by have z : i = g := z; omega)).trans (h.2.2.2.2 i hi hn)⟩
end
theorem cb_differ {w : World} {i j : Nat} {t t' : TypeId} {C D : List Value} (h : w.heap[i]? = some (.cells C.toArray t (0, 0))) (k : w.heap[j]? = some (.cells D.toArray t' (0, 0))) (ht : t ≠ t') : i ≠ j := by
  rintro rfl
  rw [h] at k
  injection k with k
  injection k with _ k
  exact ht k
end Go.Proofs.YtmnohmhhmaeljaaDoor
end
