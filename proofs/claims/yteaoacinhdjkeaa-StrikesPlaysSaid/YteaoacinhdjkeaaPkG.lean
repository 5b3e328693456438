import Derived.Test.YteaoacinhdjkeaaPkH
section
/-
  Strikes: follow.
-/
namespace Go.Proofs.Yteaoacinhdjkeaa
open Go.ChangeShapes Go.WideShapes Go.ChangeAt Go.RowKit Go.Deep Go.Maps
set_option maxRecDepth 100000

set_option maxHeartbeats 4000000 in
theorem sfollow_calls {w : World} {lg g lb : Nat} {K : List Sk} (h : LG w lg g lb K) {r : Rk} (hr : r.ok) :
    Calls Try.prog 70 #[.pointer (some ⟨lg, 0, none⟩), .agg r.C.toArray] w fun e w' => e = .returned (.tuple #[]) ∧ LG w' lg g lb (followL K r) ∧ Ot (fun i => i = lb) w w' := by
  obtain ⟨k, a, i, t⟩ := r
  have hk := hr.k
  have ha := hr.a
  have hi := hr.i
  have ht := hr.t
  dsimp only at hk ha hi ht
  have hal := sk_alloc
  have L_Z : zSk.length = 3 := rfl
  have LK : Hid (∀ s, Ext w s → (Instr.lookup 119 (.map (some lb)) (.int .i64 (i : Int)) true).run Try.prog s = .ok (.tuple #[.agg (valS (findS K (i : Int))).toArray, .bool (findS K (i : Int)).isSome]) s) := fun s e => (h.ext e).look (by omega)
  have C0 : Hid (∀ s, Ext w s → s.cell? ⟨lg, 1, none⟩ = some (.map (some lb))) := fun s e => (h.ext e).cb.cell rfl
  have SE : Hid (∀ s, Ext w s → LG s lg g lb K) := fun s e => h.ext e
  have llt := h.cb.lt
  have blt := h.mp.lt
  have AD : Hid (findS K (i : Int) = none → ∀ s, Ext w s → ∃ w', (Instr.mapUpdate 119 (.map (some lb)) (.int .i64 (i : Int)) (.agg #[.int .i64 (a : Int), .int .i64 (t : Int), .bool false])).run Try.prog s = .ok () w' ∧ LG w' lg g lb (K ++ [⟨i, a, t, false⟩]) ∧ s.grownBy w' (some lb)) := fun q s e => (h.ext e).add (r := ⟨1, a, i, t⟩) ⟨ha, hi, ht⟩ q
  have RV : Hid (∀ x, findS K (i : Int) = some x → ∀ s, Ext w s → ∃ w', (Instr.mapUpdate 119 (.map (some lb)) (.int .i64 (i : Int)) (.agg #[.int .i64 (x.acc : Int), .int .i64 (x.time : Int), .bool true])).run Try.prog s = .ok () w' ∧ LG w' lg g lb (revS K i) ∧ s.grownBy w' (some lb)) := fun x q s e => (h.ext e).rev hi q
  have FL : Hid (followL K ⟨k, a, i, t⟩ = if k = 1 then (if (findS K (i : Int)).isSome then K else K ++ [⟨i, a, t, false⟩]) else (if k = 2 then (if (findS K (i : Int)).isSome then revS K i else K) else K)) := rfl
  have BS := Lib.hid (sk_built (a : Int) (t : Int))
  generalize followL K ⟨k, a, i, t⟩ = KK at *
  obtain ⟨oo, hoo⟩ : ∃ q, q = findS K (i : Int) := ⟨_, rfl⟩
  rw [← hoo] at LK AD RV FL
  clear hoo h hr
  have L_V := valS_len oo
  have O_V := one_cells (valS_one oo)
  obtain ⟨VV, hVV⟩ : ∃ q, q = valS oo := ⟨_, rfl⟩
  rw [← hVV] at LK L_V O_V
  have S_V : VV.toArray.size = 3 := by rw [List.size_toArray, L_V]
  have S_Z : zSk.toArray.size = 3 := rfl
  replace hVV := Lib.hid hVV
  generalize zSk = ZZ at *
  obtain ⟨g3, hg3⟩ : ∃ q, q = w.heap.size := ⟨_, rfl⟩
  have B0 : Hid (Cb (w.alloc (.cells (⟨k, a, i, t⟩ : Rk).C.toArray 124)) g3 124 [.int .i64 (k : Int), .int .i64 (a : Int), .int .i64 (i : Int), .int .i64 (t : Int)] ∧ Ext w (w.alloc (.cells (⟨k, a, i, t⟩ : Rk).C.toArray 124))) := by rw [hg3]; exact ⟨Cb.new _ _ _, (Ext.refl w).alloc _⟩
  go_enter Try.func70, Try.ntmps70
  go_upto_region 1 with fail
  refine wp_gen (fun W => Cb W g3 124 [.int .i64 (k : Int), .int .i64 (a : Int), .int .i64 (i : Int), .int .i64 (t : Int)] ∧ Ext w W) B0.out ?_
  rw [← hg3]
  have wg3 : w.heap.size ≤ g3 := Nat.le_of_eq hg3.symm
  replace hg3 := Lib.hid hg3
  clear B0
  rintro w1 ⟨k3, x1⟩
  have T1 : Hid (∀ s, Below w1.heap.size w1.drew s → s.cell? ⟨lg, 1, none⟩ = some (.map (some lb)) ∧ s.cell? ⟨g3, 2, none⟩ = some (.int .i64 (i : Int)) ∧ Ext w s ∧ Cb s g3 124 [.int .i64 (k : Int), .int .i64 (a : Int), .int .i64 (i : Int), .int .i64 (t : Int)]) := fun s e => by
    have e' : Ext w1 s := Below.trans (Below.drew (Below.refl _ _)) e
    exact ⟨C0.out _ (x1.trans e'), (k3.ext e').cell rfl, x1.trans e', k3.ext e'⟩
  have l3 := k3.lt
  have lw1 := x1.size
  clear k3 x1
  have hB : w1.drew.heap.size = w1.heap.size := rfl
  refine qgB w1.heap.size [0, 1, 2, 3, 4, 5, 6, 7, 8, 9, 10, 11, 12] [10, 11] ?_
  generalize w1.heap.size = g4 at *
  generalize w1.drew = W at *
  clear w1
  iterate 6 ((first | refine qR _ (fun w' e => And.intro (T1.out w' e).1 (T1.out w' e).2.1) ?_ | refine qS ?_); go_frame)
  refine qV rfl (fun w' => Ext w w') (fun w' e => (T1.out w' e).2.2.1) (.tuple #[.agg VV.toArray, .bool oo.isSome]) (fun w' hF => exec_lookup rfl rfl rfl (LK.out _ hF)) ?_
  go_frame
  repeat ((first | refine qR0 ?_ | refine qS ?_); go_frame)
  refine qD fun K_ hK => ?_
  go_simp
  refine hK.out _ _ (Below.alloc (Below.refl _ _) (Nat.le_of_eq hB.symm) _) ?_
  clear hK K_
  try go_frame
  have c9 : Cb (W.alloc (.cells ZZ.toArray 117)) g4 117 ZZ := by rw [← hB]; exact Cb.new _ _ _
  refine qD fun K_ hK => ?_
  refine wp_store_row _ _ _ rfl g4 VV.toArray rfl rfl 117 ZZ.toArray c9 (by rw [S_V]; rfl) (by rw [S_V, S_Z]) O_V ?_
  refine hK.out _ _ (below_setRow (Below.refl _ _) (Nat.le_refl _) _) ?_
  clear hK K_
  try go_frame
  repeat ((first | refine qR0 ?_ | refine qS ?_); go_frame)
  refine seq_done ?_
  have E2 : Below g4 W ((W.alloc (.cells ZZ.toArray 117)).setRow g4 VV.toArray) := below_setRow (Below.alloc (Below.refl _ _) (Nat.le_of_eq hB.symm) _) (Nat.le_refl _) _
  refine gen_q (fun s => Cb s g4 117 VV ∧ Cb s g3 124 [.int .i64 (k : Int), .int .i64 (a : Int), .int .i64 (i : Int), .int .i64 (t : Int)] ∧ Ext w s) ⟨c9.set, (T1.out _ E2).2.2.2, (T1.out _ E2).2.2.1⟩ ?_
  clear T1 E2 c9 LK hB
  clear W
  rintro w2 ⟨k4, k3, x2⟩
  have c30 := k3.cell (j := 0) rfl
  rcases hk with rfl | rfl
  · cases oo with
    | some x =>
      have F : Hid (KK = K) := FL.out
      replace x2 := Lib.hid x2
      replace k3 := Lib.hid k3
      replace k4 := Lib.hid k4
      go_wp2_with fail
      go_end0
      exact ⟨rfl, by rw [F.out]; exact SE.out _ x2.out, Ot.of_ext x2.out⟩
    | none =>
      have F : Hid (KK = K ++ [⟨i, a, t, false⟩]) := FL.out
      have A2 := Lib.hid (AD.out rfl w2.drew x2.drew)
      have gb3 : g3 ≠ lb := by have := wg3; omega
      have T3 : Hid (∀ s, w2.drew.grownBy s (some lb) → s.cell? ⟨lg, 1, none⟩ = some (.map (some lb)) ∧ s.cell? ⟨g3, 2, none⟩ = some (.int .i64 (i : Int)) ∧ s.cell? ⟨g3, 1, none⟩ = some (.int .i64 (a : Int)) ∧ s.cell? ⟨g3, 3, none⟩ = some (.int .i64 (t : Int))) := fun s e => by
        have hb : ∀ j, j < w2.heap.size → j ≠ lb → s.heap[j]? = w2.heap[j]? := fun j hj hne => e.block j hj (fun q => hne (Option.some.inj q))
        have q3 : Cb s g3 124 [.int .i64 ((1 : Nat) : Int), .int .i64 (a : Int), .int .i64 (i : Int), .int .i64 (t : Int)] := (hb g3 k3.lt gb3).trans k3
        exact ⟨(World.cell?_of_block (hb lg (Nat.lt_of_lt_of_le llt x2.size) (SE.out w (Ext.refl w)).ne)).trans (C0.out _ x2), q3.cell rfl, q3.cell rfl, q3.cell rfl⟩
      have X2 : Hid (Ot (fun i => i = lb) w w2.drew) := Ot.of_ext x2.drew
      clear AD RV FL SE C0 x2 k3 k4
      go_upto_region 3 with fail
      clear c30
      refine qgW lb [0, 1, 2, 3, 4, 5, 6, 7, 8, 9, 10, 11] [11] ?_
      generalize w2.drew = W at *
      clear w2
      iterate 10 ((first | refine qR _ (fun w' e => (And.intro (T3.out w' e).1 (And.intro (T3.out w' e).2.1 (And.intro (T3.out w' e).2.2.1 (T3.out w' e).2.2.2)))) ?_ | refine qS ?_); go_frame)
      refine qV rfl (fun _ => True) (fun _ _ => trivial) (.agg #[.int .i64 (a : Int), .int .i64 (t : Int), .bool false]) (fun w' _ => (exec_build_as rfl (by simp only [List.map_toArray, List.map_cons, List.map_nil]; exact BS.out))) ?_
      go_frame
      refine qD fun K_ hK => ?_
      obtain ⟨w3, d1, d2, d3⟩ := A2.out
      refine wp_mapUpdate rfl rfl rfl rfl d1 ?_
      refine hK.out _ _ d3 ?_
      clear hK K_
      try simp only [Act.put]
      refine seq_done ?_
      have FIN : Hid (LG w3 lg g lb KK ∧ Ot (fun i => i = lb) w w3) := ⟨by rw [F.out]; exact d2, X2.out.trans (Ot.of_grown d3 rfl)⟩
      clear A2 T3 X2 d1 d2 d3 BS
      go_wp2_with fail
      go_end0
      exact ⟨rfl, FIN.out⟩
  · cases oo with
    | none =>
      have F : Hid (KK = K) := FL.out
      replace x2 := Lib.hid x2
      replace k3 := Lib.hid k3
      replace k4 := Lib.hid k4
      go_wp2_with fail
      go_end0
      exact ⟨rfl, by rw [F.out]; exact SE.out _ x2.out, Ot.of_ext x2.out⟩
    | some x =>
      have F : Hid (KK = revS K i) := FL.out
      rw [hVV.out] at k4
      have e4 : valS (some x) = [.int .i64 (x.acc : Int), .int .i64 (x.time : Int), .bool x.rev] := rfl
      rw [e4] at k4
      have c42 := k4.cell (j := 2) rfl
      have f42 := k4.frozen 2
      have gr := gr_cell22 w2 g4 2 (.bool true)
      have g34 : g3 ≠ g4 := by omega
      have K5 : Hid (Cb (w2.setCell ⟨g4, 2, none⟩ (.bool true)) g4 117 [.int .i64 (x.acc : Int), .int .i64 (x.time : Int), .bool true] ∧ Cb (w2.setCell ⟨g4, 2, none⟩ (.bool true)) g3 124 [.int .i64 ((2 : Nat) : Int), .int .i64 (a : Int), .int .i64 (i : Int), .int .i64 (t : Int)] ∧ Ext w (w2.setCell ⟨g4, 2, none⟩ (.bool true))) := ⟨k4.setCell, (gr.block _ k3.lt (fun q => g34 (Option.some.inj q))).trans k3, Ot.ext (p := fun i => i = g4) x2 (Ot.of_grown gr rfl) (fun i q => by omega)⟩
      clear gr x2 k3 k4 e4 AD FL
      go_upto_region 6 with fail
      refine wp_gen (fun W => Cb W g4 117 [.int .i64 (x.acc : Int), .int .i64 (x.time : Int), .bool true] ∧ Cb W g3 124 [.int .i64 ((2 : Nat) : Int), .int .i64 (a : Int), .int .i64 (i : Int), .int .i64 (t : Int)] ∧ Ext w W) K5.out ?_
      clear K5 c30 c42 f42 w2
      rintro w2 ⟨k4, k3, x2⟩
      have A2 := Lib.hid (RV.out x rfl w2.drew x2.drew)
      have gb3 : g3 ≠ lb := by have := wg3; omega
      have gb4 : g4 ≠ lb := by omega
      obtain ⟨NV, hNV⟩ : ∃ q, q = [Value.int .i64 (x.acc : Int), .int .i64 (x.time : Int), .bool true] := ⟨_, rfl⟩
      have S_NV : NV.toArray.size = 3 := by rw [hNV]; rfl
      rw [← hNV] at k4
      have eNV : (#[.int .i64 (x.acc : Int), .int .i64 (x.time : Int), .bool true] : Array Value) = NV.toArray := by rw [hNV]
      rw [eNV] at A2
      have T3 : Hid (∀ s, w2.drew.grownBy s (some lb) → (s.cell? ⟨lg, 1, none⟩ = some (.map (some lb)) ∧ s.cell? ⟨g3, 2, none⟩ = some (.int .i64 (i : Int))) ∧ Cb s g4 117 NV) := fun s e => by
        have hb : ∀ j, j < w2.heap.size → j ≠ lb → s.heap[j]? = w2.heap[j]? := fun j hj hne => e.block j hj (fun q => hne (Option.some.inj q))
        have q3 : Cb s g3 124 [.int .i64 ((2 : Nat) : Int), .int .i64 (a : Int), .int .i64 (i : Int), .int .i64 (t : Int)] := (hb g3 k3.lt gb3).trans k3
        exact ⟨⟨(World.cell?_of_block (hb lg (Nat.lt_of_lt_of_le llt x2.size) (SE.out w (Ext.refl w)).ne)).trans (C0.out _ x2), q3.cell rfl⟩, (hb g4 k4.lt gb4).trans k4⟩
      have X2 : Hid (Ot (fun i => i = lb) w w2.drew) := Ot.of_ext x2.drew
      replace hNV := Lib.hid hNV
      clear RV SE C0 x2 k3 k4 eNV
      refine qgW lb [0, 1, 2, 3, 4, 5, 6, 7] [7] ?_
      generalize w2.drew = W at *
      clear w2
      iterate 6 ((first | refine qR _ (fun w' e => (And.intro (T3.out w' e).1.1 (T3.out w' e).1.2)) ?_ | refine qS ?_); go_frame)
      refine qV rfl (fun w' => w'.heap[g4]? = some (.cells NV.toArray 117 (0, 0))) (fun w' e => (T3.out w' e).2) (.agg NV.toArray) (fun w' hF => exec_load_row rfl rfl hF rfl rfl (by rw [S_NV]; rfl)) ?_
      go_frame
      refine qD fun K_ hK => ?_
      obtain ⟨w3, d1, d2, d3⟩ := A2.out
      refine wp_mapUpdate rfl rfl rfl rfl d1 ?_
      refine hK.out _ _ d3 ?_
      clear hK K_
      try simp only [Act.put]
      refine seq_done ?_
      have FIN : Hid (LG w3 lg g lb KK ∧ Ot (fun i => i = lb) w w3) := ⟨by rw [F.out]; exact d2, X2.out.trans (Ot.of_grown d3 rfl)⟩
      clear A2 T3 X2 d1 d2 d3
      go_wp2_with fail
      go_end0
      exact ⟨rfl, FIN.out⟩
end Go.Proofs.Yteaoacinhdjkeaa
end

section
/-
  Strikes: Of, Count, Suspended.
-/
namespace Go.Proofs.Yteaoacinhdjkeaa
open Go.ChangeShapes Go.WideShapes Go.ChangeAt Go.RowKit Go.Deep Go.Maps
set_option maxRecDepth 100000

def ofA (o : Option Sk) : Int := o.elim 0 fun s => (s.acc : Int)
def ofR (o : Option Sk) : Bool := o.elim false fun s => s.rev
set_option maxHeartbeats 4000000 in
theorem sof_calls {w : World} {lg g lb : Nat} {K : List Sk} (h : LG w lg g lb K) {id : Int} (hi : -9223372036854775808 ≤ id ∧ id ≤ 9223372036854775807) :
    Calls Try.prog 34 #[.pointer (some ⟨lg, 0, none⟩), .int .i64 id] w fun e w' => e = .returned (.tuple #[.int .i64 (ofA (findS K id)), .bool (ofR (findS K id)), .bool (findS K id).isSome]) ∧ Ext w w' := by
  have hal := sk_alloc
  have LK := h.look hi
  have c1 : w.cell? ⟨lg, 1, none⟩ = some (.map (some lb)) := h.cb.cell rfl
  clear h
  generalize findS K id = oo at *
  have L_V := valS_len oo
  have O_V := one_cells (valS_one oo)
  have hV : Hid ((valS oo)[0]? = some (.int .i64 (ofA oo)) ∧ (valS oo)[2]? = some (.bool (ofR oo))) := by cases oo <;> exact ⟨rfl, rfl⟩
  obtain ⟨VV, hVV⟩ : ∃ q, q = valS oo := ⟨_, rfl⟩
  rw [← hVV] at LK L_V O_V hV
  clear hVV
  have S_V : VV.toArray.size = 3 := by rw [List.size_toArray, L_V]
  have S_Z : zSk.toArray.size = 3 := rfl
  generalize zSk = ZZ at *
  generalize ofA oo = oa at *
  generalize ofR oo = or_ at *
  generalize oo.isSome = is at *
  have K1 : Hid (Cb ((w.alloc (.cells ZZ.toArray 117)).setRow w.heap.size VV.toArray) w.heap.size 117 VV ∧ Ext w ((w.alloc (.cells ZZ.toArray 117)).setRow w.heap.size VV.toArray)) := ⟨(Cb.new w _ ZZ).set, Ext.newRow _ _ _⟩
  go_enter Try.func34, Try.ntmps34
  go_upto_region 2 with (first
    | (refine wpList_lookup_mp rfl _ _ rfl rfl rfl LK ?_; go_frame)
    | (refine wpList_store_row rfl 117 _ _ rfl w.heap.size VV.toArray rfl rfl 117 ZZ.toArray (heap_alloc_new _ _) (by rw [S_V]; rfl) (by rw [S_V, S_Z]) O_V ?_; simp only [Act.put]))
  refine wp_gen (fun W => Cb W w.heap.size 117 VV ∧ Ext w W) K1.out ?_
  clear K1 c1 LK
  generalize w.heap.size = g7 at *
  rintro w1 ⟨k, x⟩
  have F : Hid (∀ s, Ext w1.drew s → s.cell? ⟨g7, 0, none⟩ = some (.int .i64 oa) ∧ s.cell? ⟨g7, 2, none⟩ = some (.bool or_)) := fun s e => ⟨((k.ext (Ext.refl w1).drew).ext e).cell hV.out.1, ((k.ext (Ext.refl w1).drew).ext e).cell hV.out.2⟩
  have X : Hid (Ext w w1.drew) := x.drew
  clear k x hV
  refine qgE [0, 1, 2, 3, 4, 5, 6, 7] [] ?_
  repeat ((first | refine qR _ (fun w' e => F.out w' e) ?_ | refine qS ?_); go_frame)
  refine seq_done ?_
  clear F
  generalize w1.drew = W at *
  go_wp2_with fail
  go_ret3
  exact ⟨rfl, X.out⟩
/-- How many count. -/
def pS (a now : Int) (s : Sk) : Bool := decide ((s.acc : Int) = a) && !s.rev && decide ((s.time : Int) ≤ now) && decide (IntKind.i64.wrap (now - 100) ≤ (s.time : Int))
def cntS (K : List Sk) (a now : Int) : Nat := (K.filter (pS a now)).length
theorem cnt_le (K : List Sk) (a now : Int) : cntS K a now ≤ K.length := List.length_filter_le _ _
theorem cnt_step {p : Sk → Bool} : ∀ {R : List Sk}, R.Pairwise (fun x y => x.id ≠ y.id) → ∀ s ∈ R, (R.filter p).length = ((R.filter fun x => decide (x.id ≠ s.id)).filter p).length + (if p s then 1 else 0)
  | [], _, s, hs => by cases hs
  | x :: R, h, s, hs => by
    obtain ⟨h1, h2⟩ := List.pairwise_cons.1 h
    rcases List.mem_cons.1 hs with e | hs
    · subst e
      have eR : (R.filter fun x => decide (x.id ≠ s.id)) = R := List.filter_eq_self.2 fun y hy => decide_eq_true (fun q => h1 y hy q.symm)
      rw [List.filter_cons_of_neg (a := s) (l := R) (p := fun x => decide (x.id ≠ s.id)) (by simp), eR, List.filter_cons]
      split <;> simp
    · have hne : x.id ≠ s.id := h1 s hs
      have ih := cnt_step (p := p) h2 s hs
      rw [List.filter_cons_of_pos (a := x) (l := R) (p := fun x => decide (x.id ≠ s.id)) (decide_eq_true hne), List.filter_cons, List.filter_cons]
      split
      · rw [List.length_cons, List.length_cons, ih]; omega
      · exact ih
set_option maxHeartbeats 8000000 in
theorem scount_calls {w : World} {lg g lb : Nat} {K : List Sk} (h : LG w lg g lb K) {a now : Int} :
    Calls Try.prog 36 #[.pointer (some ⟨lg, 0, none⟩), .int .i64 a, .int .i64 now] w fun e w' => e = .returned (.int .i64 (cntS K a now : Int)) ∧ Ext w w' := by
  have hal := sk_alloc
  have S_Z : zSk.toArray.size = 3 := rfl
  have hKl := h.ok.len
  have AP := Lib.hid h.ok.ap
  have c1 : w.cell? ⟨lg, 1, none⟩ = some (.map (some lb)) := h.cb.cell rfl
  have hm0 := h.mp
  have LE := cnt_le K a now
  have HC : Hid (cntS K a now = (K.filter (pS a now)).length) := rfl
  generalize cntS K a now = CN at *
  obtain ⟨n1, hn1⟩ : ∃ q, IntKind.i64.wrap (now - 100) = q := ⟨_, rfl⟩
  have PS : Hid (∀ s, pS a now s = (decide ((s.acc : Int) = a) && !s.rev && decide ((s.time : Int) ≤ now) && decide (n1 ≤ (s.time : Int)))) := fun s => by unfold pS; rw [hn1]
  generalize pS a now = p at *
  clear h
  generalize zSk = ZZ at *
  obtain ⟨r4, hr4⟩ : ∃ r, r = w.heap.size := ⟨_, rfl⟩
  have wr4 : w.heap.size ≤ r4 := Nat.le_of_eq hr4.symm
  go_enter Try.func36, Try.ntmps36
  go_wp2_with (at_range; refine wpList_range_mp rfl _ rfl int_law Try.underlying119 rfl hm0 hr4.symm ?_; intro w1 m1 x1)
  go_frame
  replace hr4 := Lib.hid hr4
  go_loopw [7] (fun mv wr => ∃ (lf : Value → Prop) (cnt m : Nat) (R : List Sk), mv = .int .i64 (m : Int) ∧ Mr Try.prog 3 wr lb r4 (K.map fun s => (s.key, .agg s.C.toArray)) lf cnt ∧ R.Sublist K ∧ (∀ s ∈ K, lf s.key ↔ s ∈ R) ∧ m + (R.filter p).length = (K.filter p).length ∧ Ext w wr) (fun _ wr => wr.rangeLeft lb r4)
  case atStart => exact ⟨_, _, 0, K, rfl, m1, List.Sublist.refl _, fun s hs => ⟨fun _ => hs, fun _ => trivial⟩, Nat.zero_add _, x1⟩
  case round =>
    obtain ⟨lf, cnt, m, R, rfl, mr, hRK, hlf, hm, xr⟩ := hrel
    clear m1 c1 x1
    have mro : Hid (wr.rangeLeft lb r4 = cnt) := mr.left_eq
    have hmle : m ≤ 1000001 := by have := HC.out; omega
    replace xr := Lib.hid xr
    replace hRK := Lib.hid hRK
    replace hlf := Lib.hid hlf
    replace hm := Lib.hid hm
    go_wp2_with (at_next; refine wpList_next_mr Sk.key (fun s => .agg s.C.toArray) rfl _ rfl int_law rfl mr ?_ ?_)
    · intro hd
      have hR : R = [] := by
        cases R with
        | nil => rfl
        | cons x r =>
          have hx : x ∈ K := hRK.out.subset (List.mem_cons_self ..)
          exact absurd ((hlf.out x hx).2 (List.mem_cons_self ..)) (hd x hx)
      have F : Hid (m = CN) := by
        have := hm.out
        rw [hR] at this
        have := HC.out
        unfold Hid
        simp at *
        omega
      clear mr mro hd hR hRK hlf hm HC LE
      go_wp2_with fail
      go_ret
      exact ⟨by rw [F.out]; rfl, xr.out⟩
    · intro y hy hly w3 cnt3 m3 hlt hg hs hen
      have hen' : (Instr.entry (.pointer (some ⟨r4, 0, none⟩))).run Try.prog w3 = .ok (.tuple #[y.key, .agg y.C.toArray]) w3 := hen
      have hyR : y ∈ R := (hlf.out y hy).1 hly
      have X3 : Hid (Ext w w3) := Below.trans xr.out ⟨hg.os, hg.tape, hg.output, hg.size, fun i hi => hg.block i (Nat.lt_of_lt_of_le hi xr.out.size) (fun q => by have := Option.some.inj q; omega)⟩
      have L_V : y.C.length = 3 := rfl
      have O_V : y.C.toArray.all (·.oneCell') = true := one_cells (fun v hv => by
        simp only [Sk.C, List.mem_cons, List.not_mem_nil, or_false] at hv
        rcases hv with rfl | rfl | rfl <;> rfl)
      have S_V : y.C.toArray.size = 3 := rfl
      have PY := Lib.hid (PS.out y)
      have ST := Lib.hid (cnt_step (p := p) (AP.out.sublist hRK.out) y hyR)
      have R2 : Hid ((R.filter fun x => decide (x.id ≠ y.id)).Sublist K ∧ ∀ s ∈ K, (lf s.key ∧ s.key ≠ y.key) ↔ s ∈ R.filter fun x => decide (x.id ≠ y.id)) := by
        refine ⟨List.filter_sublist.trans hRK.out, fun s hs => ?_⟩
        rw [List.mem_filter, hlf.out s hs]
        refine and_congr Iff.rfl ⟨fun q => decide_eq_true fun e => q (by unfold Sk.key; rw [e]), fun q e => ?_⟩
        have q := of_decide_eq_true q
        unfold Sk.key at e
        injection e with _ e
        omega
      have vv : Hid (y.C[0]? = some (.int .i64 (y.acc : Int)) ∧ y.C[1]? = some (.int .i64 (y.time : Int)) ∧ y.C[2]? = some (.bool y.rev)) := ⟨rfl, rfl, rfl⟩
      clear mr hen xr hly hRK hlf hs
      generalize y.key = yk at *
      generalize y.C = VV at *
      generalize (R.filter fun x => decide (x.id ≠ y.id)) = RR at *
      have K5 : Hid (Cb ((w3.alloc (.cells ZZ.toArray 117)).setRow w3.heap.size VV.toArray) w3.heap.size 117 VV ∧ Ext w3 ((w3.alloc (.cells ZZ.toArray 117)).setRow w3.heap.size VV.toArray)) := ⟨(Cb.new w3 _ ZZ).set, Ext.newRow _ _ _⟩
      go_upto_region 5 with (refine wpList_store_row rfl 117 _ _ rfl w3.heap.size VV.toArray rfl rfl 117 ZZ.toArray (heap_alloc_new _ _) (by rw [S_V]; rfl) (by rw [S_V, S_Z]) O_V ?_; simp only [Act.put])
      refine wp_gen (fun W => Cb W w3.heap.size 117 VV ∧ Ext w3 W) K5.out ?_
      clear K5 hen'
      rintro w4 ⟨k5, x4⟩
      have M4 := Lib.hid (m3.ext x4)
      have X4 := Lib.hid (X3.out.trans x4)
      have lt4 : Hid (w4.rangeLeft lb r4 < wr.rangeLeft lb r4) := by
        unfold Hid
        rw [(m3.ext x4).left_eq, mro.out]
        exact hlt
      clear m3 X3 x4 hg
      generalize w3.heap.size = g5 at *
      clear hlt w3
      have c0 := k5.cell vv.out.1
      have c1 := k5.cell vv.out.2.1
      have c2 := k5.cell vv.out.2.2
      replace k5 := Lib.hid k5
      obtain ⟨yr, hyr⟩ : ∃ q, q = y.rev := ⟨_, rfl⟩
      rw [← hyr] at c2 PY
      clear hyr vv
      generalize (y.acc : Int) = ya at *
      generalize (y.time : Int) = yt at *
      have go : Hid (∀ k, k = m + (if p y then 1 else 0) → k + (RR.filter p).length = (K.filter p).length) := fun k q => by
        have := hm.out
        have := ST.out
        omega
      clear hm ST
      by_cases b1 : ya = a
      · subst b1
        cases yr with
        | true =>
          have F := Lib.hid (show p y = false by rw [PY.out]; simp)
          go_wp2_with fail
          go_roundw
          case rel => exact ⟨_, _, m, RR, rfl, M4.out, R2.out.1, R2.out.2, go.out m (by rw [F.out]; rfl), X4.out⟩
          case measure => exact lt4.out
        | false =>
          by_cases b3 : yt ≤ now
          · have u3 : decide (yt ≤ now) = true := decide_eq_true b3
            by_cases b4 : n1 ≤ yt
            · have u4 : decide (n1 ≤ yt) = true := decide_eq_true b4
              have F := Lib.hid (show p y = true by rw [PY.out, u3, u4]; simp)
              have ad : IntKind.i64.wrap ((m : Int) + 1) = (m : Int) + 1 := IntWalk.i64_in _ (by omega)
              go_wp2_with fail
              go_roundw
              case rel => exact ⟨_, _, m + 1, RR, by go_num, M4.out, R2.out.1, R2.out.2, go.out (m + 1) (by rw [F.out]; rfl), X4.out⟩
              case measure => exact lt4.out
            · have u4 : decide (n1 ≤ yt) = false := decide_eq_false b4
              have F := Lib.hid (show p y = false by rw [PY.out, u4]; simp)
              go_wp2_with fail
              go_roundw
              case rel => exact ⟨_, _, m, RR, rfl, M4.out, R2.out.1, R2.out.2, go.out m (by rw [F.out]; rfl), X4.out⟩
              case measure => exact lt4.out
          · have u3 : decide (yt ≤ now) = false := decide_eq_false b3
            have F := Lib.hid (show p y = false by rw [PY.out, u3]; simp)
            go_wp2_with fail
            go_roundw
            case rel => exact ⟨_, _, m, RR, rfl, M4.out, R2.out.1, R2.out.2, go.out m (by rw [F.out]; rfl), X4.out⟩
            case measure => exact lt4.out
      · have u1 : (ya == a) = false := beq_eq_false_iff_ne.2 b1
        have F := Lib.hid (show p y = false by rw [PY.out, decide_eq_false b1]; simp)
        go_wp2_with fail
        go_roundw
        case rel => exact ⟨_, _, m, RR, rfl, M4.out, R2.out.1, R2.out.2, go.out m (by rw [F.out]; rfl), X4.out⟩
        case measure => exact lt4.out
theorem ssusp_calls {w : World} {lg g lb : Nat} {K : List Sk} (h : LG w lg g lb K) {a now : Int} :
    Calls Try.prog 38 #[.pointer (some ⟨lg, 0, none⟩), .int .i64 a, .int .i64 now] w fun e w' => e = .returned (.bool (decide (3 ≤ cntS K a now))) ∧ Ext w w' := by
  have CC := Lib.hid (scount_calls h (a := a) (now := now))
  have E : decide (3 ≤ (cntS K a now : Int)) = decide (3 ≤ cntS K a now) := by rw [Bool.eq_iff_iff]; simp; omega
  clear h
  generalize cntS K a now = n at *
  generalize decide (3 ≤ n) = b at *
  go_enter Try.func38, Try.ntmps38
  go_wp2_with fail
  refine CC.out.mono ?_
  rintro e w1 ⟨rfl, x1⟩
  replace x1 := Lib.hid x1
  clear CC
  go_wp2_with fail
  go_ret
  exact ⟨rfl, x1.out⟩
end Go.Proofs.Yteaoacinhdjkeaa
end

section
/-
  palfreyref23: Of, Count, Suspended.
-/
namespace Go.Proofs.Yteaoacinhdjkeaa
open Go.ChangeShapes Go.WideShapes Go.ChangeAt Go.RowKit Go.Deep Go.Maps
set_option maxRecDepth 100000

section
variable {w w' : World} {lo : Nat → Prop} {rg g : Nat} {K : List Sk}
theorem RL.at (h : RL lo w rg g K) {k : Nat} {s : Sk} (hk : K[k]? = some s) : ∃ (b off n c : Nat), k < n ∧ n = K.length ∧ n ≤ c ∧ c ≤ maxLen ∧ ∀ W, Ext w W → W.cell? ⟨rg, 1, none⟩ = some (.slice (some ⟨b, off, none⟩) n c) ∧ ∀ q v, s.R[q]? = some v → W.cell? ⟨b, off + k * 4 + q, none⟩ = some v := by
  obtain ⟨A, n, c, h1, h2, h3⟩ := h
  have lm : K.length = n := by have := h2.1.1; rwa [List.length_map] at this
  have hkn : k < n := by rw [← lm]; exact (List.getElem?_eq_some_iff.1 hk).1
  obtain ⟨b, off, rfl, hb, hc⟩ := h2.at hkn
  have e1 : (K.map Sk.R).getD k [] = s.R := by rw [List.getD_eq_getElem?_getD, List.getElem?_map, hk]; rfl
  rw [e1] at hc
  exact ⟨b, off, n, c, hkn, lm.symm, h2.2.1.1, h2.2.1.2, fun W x => ⟨(h1.ext x).cell rfl, fun q v hv => (x.cell (p := ⟨b, off + k * 4 + q, none⟩) hb).trans (hc q v hv)⟩⟩
set_option maxHeartbeats 4000000 in
theorem rof23_calls (h : RL lo w rg g K) (hK : K.length ≤ 1000) {id : Int} :
    Calls Try.prog 35 #[.pointer (some ⟨rg, 0, none⟩), .int .i64 id] w fun e w' => e = .returned (.tuple #[.int .i64 (ofA (findS K id)), .bool (ofR (findS K id)), .bool (findS K id).isSome]) ∧ Ext w w' := by
  have RA := Lib.hid (rat23_calls h hK (id := id))
  have LA := Lib.hid (fun (k : Nat) (s : Sk) (q : K[k]? = some s) => h.at q)
  clear h
  generalize findS K id = oo at *
  go_enter Try.func35, Try.ntmps35
  go_wp2_with fail
  refine RA.out.mono ?_
  rintro e w1 ⟨⟨r, rfl, hr⟩, rfl⟩
  clear RA
  rcases hr with ⟨rfl, rfl⟩ | ⟨k, s, rfl, hk, rfl⟩
  · clear LA
    go_wp2_with fail
    go_ret3
    exact ⟨rfl, Ext.refl w1⟩
  · obtain ⟨b, off, n, c, h1, -, h3, h4, hc⟩ := LA.out k s hk
    have kn : (k : Int) < (n : Int) := by omega
    have l1 : decide ((k : Int) < 0) = false := decide_eq_false (by omega)
    have T : Hid (∀ W, Ext w1.drew W → W.cell? ⟨rg, 1, none⟩ = some (.slice (some ⟨b, off, none⟩) n c) ∧ W.cell? ⟨b, off + k * 4 + 1, none⟩ = some (.int .i64 (s.acc : Int)) ∧ W.cell? ⟨b, off + k * 4 + 3, none⟩ = some (.bool s.rev)) := fun W x => by
      obtain ⟨q1, q2⟩ := hc W ((Ext.refl w1).drew.trans x)
      exact ⟨q1, q2 1 _ rfl, q2 3 _ rfl⟩
    have X : Hid (Ext w1 w1.drew) := (Ext.refl w1).drew
    clear LA hk hc
    go_upto_region 4 with fail
    refine qgE [0, 1, 2, 3, 4, 5, 6, 7, 8, 9, 10, 11, 12, 13, 14, 15, 16, 17, 18] [] ?_
    generalize w1.drew = V at *
    repeat ((first | refine qR _ (fun w' e => (And.intro (T.out w' e).1 (And.intro (T.out w' e).2.1 (T.out w' e).2.2))) ?_ | refine qS ?_); go_frame)
    refine seq_done ?_
    clear T
    go_wp2_with fail
    go_ret3
    exact ⟨rfl, X.out⟩
theorem rsk_alloc (w : World) : (zeroValue 128).run Try.prog w = .ok (.agg (⟨0, 0, 0, false⟩ : Sk).R.toArray) w := by kernel_rfl
theorem cnt_take {K : List Sk} {k : Nat} {s : Sk} (p : Sk → Bool) (hk : K[k]? = some s) : ((K.take (k + 1)).filter p).length = ((K.take k).filter p).length + (if p s then 1 else 0) := by
  rw [List.take_add_one, hk, List.filter_append, List.length_append]
  show _ + ((List.filter p [s])).length = _
  rw [List.filter_cons]
  split <;> rfl
set_option maxHeartbeats 8000000 in
theorem rcount23_calls (h : RL lo w rg g K) (hK : K.length ≤ 1000) {a now : Int} :
    Calls Try.prog 37 #[.pointer (some ⟨rg, 0, none⟩), .int .i64 a, .int .i64 now] w fun e w' => e = .returned (.int .i64 (cntS K a now : Int)) ∧ Ext w w' := by
  have hal := rsk_alloc
  have S_Z : (⟨0, 0, 0, false⟩ : Sk).R.toArray.size = 4 := rfl
  have LA := Lib.hid (fun (k : Nat) (s : Sk) (q : K[k]? = some s) => h.at q)
  have LE := cnt_le K a now
  have HC : Hid (cntS K a now = (K.filter (pS a now)).length) := rfl
  generalize cntS K a now = CN at *
  obtain ⟨n1, hn1⟩ : ∃ q, IntKind.i64.wrap (now - 100) = q := ⟨_, rfl⟩
  have PS : Hid (∀ s, pS a now s = (decide ((s.acc : Int) = a) && !s.rev && decide ((s.time : Int) ≤ now) && decide (n1 ≤ (s.time : Int)))) := fun s => by unfold pS; rw [hn1]
  have CT := Lib.hid (fun (k : Nat) (s : Sk) (q : K[k]? = some s) => cnt_take (pS a now) q)
  generalize pS a now = p at *
  generalize (⟨0, 0, 0, false⟩ : Sk).R = ZZ at *
  obtain ⟨A, n, c, hcb, cs, _⟩ := h
  have lm : K.length = n := by have := cs.1.1; rwa [List.length_map] at this
  have cap2 : c ≤ 9223372036854775807 := cs.2.1.2
  have C1 : Hid (∀ W, Ext w W → W.cell? ⟨rg, 1, none⟩ = some (.slice A n c)) := fun W x => (hcb.ext x).cell rfl
  replace cs := Lib.hid cs
  have hn : n ≤ 1000 := by omega
  replace lm := Lib.hid lm
  clear hcb
  go_enter Try.func37, Try.ntmps37
  go_wp2_with fail
  go_loopw [7, 8] (fun mv iv wr => ∃ (k m : Nat), k ≤ n ∧ iv = .int .i64 (k : Int) ∧ mv = .int .i64 (m : Int) ∧ m = ((K.take k).filter p).length ∧ Ext w wr) (fun _ iv _ => n - (intOf iv).toNat)
  case atStart => exact ⟨0, 0, Nat.zero_le _, rfl, rfl, rfl, Ext.refl w⟩
  case round =>
    obtain ⟨k, m, hkn, rfl, rfl, hm, xr⟩ := hrel
    have c1 := C1.out wr xr
    have m1 : m ≤ 1000 := by
      have h1 : ((K.take k).filter p).length ≤ (K.take k).length := List.length_filter_le _ _
      have h2 : (K.take k).length ≤ K.length := by rw [List.length_take]; omega
      have := lm.out
      omega
    by_cases hlt : k < n
    · have l1 : decide ((k : Int) < (n : Int)) = true := decide_eq_true (by omega)
      have l2 : (k : Int) < (n : Int) := by omega
      have k1 : IntKind.i64.wrap ((k : Int) + 1) = ((k + 1 : Nat) : Int) := (IntWalk.i64_in _ (by omega)).trans (by omega)
      obtain ⟨y, hy⟩ : ∃ s, K[k]? = some s := ⟨_, List.getElem?_eq_getElem (by have := lm.out; omega)⟩
      obtain ⟨b, off, rfl, hb, hc⟩ := cs.out.at hlt
      have e1 : (K.map Sk.R).getD k [] = y.R := by rw [List.getD_eq_getElem?_getD, List.getElem?_map, hy]; rfl
      rw [e1] at hc
      have M0 : Hid (∀ q v, y.R[q]? = some v → wr.cell? ⟨b, off + k * 4 + q, none⟩ = some v) := fun q v hv => (xr.cell (p := ⟨b, off + k * 4 + q, none⟩) hb).trans (hc q v hv)
      have L_V : y.R.length = 4 := rfl
      have S_V : y.R.toArray.size = 4 := rfl
      have O_V : y.R.toArray.all (·.oneCell') = true := one_cells (fun v hv => by
        simp only [Sk.R, List.mem_cons, List.not_mem_nil, or_false] at hv
        rcases hv with rfl | rfl | rfl | rfl <;> rfl)
      have PY := Lib.hid (PS.out y)
      have ST := Lib.hid (CT.out k y hy)
      have vv : Hid (y.R[1]? = some (.int .i64 (y.acc : Int)) ∧ y.R[2]? = some (.int .i64 (y.time : Int)) ∧ y.R[3]? = some (.bool y.rev)) := ⟨rfl, rfl, rfl⟩
      replace hm := Lib.hid hm
      clear hc e1 hy
      generalize y.R = VV at *
      have K5 : Hid (Cb ((wr.alloc (.cells ZZ.toArray 128)).setRow wr.heap.size VV.toArray) wr.heap.size 128 VV ∧ Ext w ((wr.alloc (.cells ZZ.toArray 128)).setRow wr.heap.size VV.toArray)) := ⟨(Cb.new wr _ ZZ).set, xr.trans (Ext.newRow _ _ _)⟩
      replace xr := Lib.hid xr
      go_upto_region 6 with (first
        | ((with_reducible refine wpList_load_mid (o := ⟨some 25, _, _, _, _, _⟩) (ty := 128) (g := b) (off := off + k * 4) (ys := VV) ?_ rfl ?_ ?_ Try.underlying128 ?_ ?_ ?_); (· rfl); (· rfl); (· exact M0.out); (· rfl); (· rw [L_V]; rfl); go_frame)
        | (refine wpList_store_row rfl 128 _ _ rfl wr.heap.size VV.toArray rfl rfl 128 ZZ.toArray (heap_alloc_new _ _) (by rw [S_V]; rfl) (by rw [S_V, S_Z]) O_V ?_; simp only [Act.put]))
      refine wp_gen (fun W => Cb W wr.heap.size 128 VV ∧ Ext w W) K5.out ?_
      clear K5 M0 c1
      generalize wr.heap.size = g5 at *
      clear xr wr
      rintro w4 ⟨k5, x4⟩
      have c0 := k5.cell vv.out.1
      have c1 := k5.cell vv.out.2.1
      have c2 := k5.cell vv.out.2.2
      replace k5 := Lib.hid k5
      replace x4 := Lib.hid x4
      obtain ⟨yr, hyr⟩ : ∃ q, q = y.rev := ⟨_, rfl⟩
      rw [← hyr] at c2 PY
      clear hyr vv
      generalize (y.acc : Int) = ya at *
      generalize (y.time : Int) = yt at *
      have go : Hid (∀ j, j = m + (if p y then 1 else 0) → j = ((K.take (k + 1)).filter p).length) := fun j q => by
        have := hm.out
        have := ST.out
        omega
      clear hm ST
      by_cases b1 : ya = a
      · subst b1
        cases yr with
        | true =>
          have F := Lib.hid (show p y = false by rw [PY.out]; simp)
          go_wp2_with fail
          go_roundw
          case rel => exact ⟨k + 1, m, by omega, by go_num, rfl, go.out m (by rw [F.out]; rfl), x4.out⟩
          case measure => simp [intOf]; omega
        | false =>
          by_cases b3 : yt ≤ now
          · have u3 : decide (yt ≤ now) = true := decide_eq_true b3
            by_cases b4 : n1 ≤ yt
            · have u4 : decide (n1 ≤ yt) = true := decide_eq_true b4
              have F := Lib.hid (show p y = true by rw [PY.out, u3, u4]; simp)
              have ad : IntKind.i64.wrap ((m : Int) + 1) = ((m + 1 : Nat) : Int) := (IntWalk.i64_in _ (by omega)).trans (by omega)
              go_wp2_with fail
              go_roundw
              case rel => exact ⟨k + 1, m + 1, by omega, by go_num, by go_num, go.out (m + 1) (by rw [F.out]; rfl), x4.out⟩
              case measure => simp [intOf]; omega
            · have u4 : decide (n1 ≤ yt) = false := decide_eq_false b4
              have F := Lib.hid (show p y = false by rw [PY.out, u4]; simp)
              go_wp2_with fail
              go_roundw
              case rel => exact ⟨k + 1, m, by omega, by go_num, rfl, go.out m (by rw [F.out]; rfl), x4.out⟩
              case measure => simp [intOf]; omega
          · have u3 : decide (yt ≤ now) = false := decide_eq_false b3
            have F := Lib.hid (show p y = false by rw [PY.out, u3]; simp)
            go_wp2_with fail
            go_roundw
            case rel => exact ⟨k + 1, m, by omega, by go_num, rfl, go.out m (by rw [F.out]; rfl), x4.out⟩
            case measure => simp [intOf]; omega
      · have u1 : (ya == a) = false := beq_eq_false_iff_ne.2 b1
        have F := Lib.hid (show p y = false by rw [PY.out, decide_eq_false b1]; simp)
        go_wp2_with fail
        go_roundw
        case rel => exact ⟨k + 1, m, by omega, by go_num, rfl, go.out m (by rw [F.out]; rfl), x4.out⟩
        case measure => simp [intOf]; omega
    · obtain rfl : k = n := by omega
      have l1 : decide ((k : Int) < (k : Int)) = false := decide_eq_false (by omega)
      have F : Hid (m = CN) := by
        unfold Hid
        rw [hm, List.take_of_length_le (by have := lm.out; omega), HC.out]
      replace xr := Lib.hid xr
      clear hm
      go_wp2_with fail
      go_ret
      exact ⟨by rw [F.out]; rfl, xr.out⟩
theorem rsusp23_calls (h : RL lo w rg g K) (hK : K.length ≤ 1000) {a now : Int} :
    Calls Try.prog 39 #[.pointer (some ⟨rg, 0, none⟩), .int .i64 a, .int .i64 now] w fun e w' => e = .returned (.bool (decide (3 ≤ cntS K a now))) ∧ Ext w w' := by
  have CC := Lib.hid (rcount23_calls h hK (a := a) (now := now))
  have E : decide (3 ≤ (cntS K a now : Int)) = decide (3 ≤ cntS K a now) := by rw [Bool.eq_iff_iff]; simp; omega
  clear h
  generalize cntS K a now = n at *
  generalize decide (3 ≤ n) = b at *
  go_enter Try.func39, Try.ntmps39
  go_wp2_with fail
  refine CC.out.mono ?_
  rintro e w1 ⟨rfl, x1⟩
  replace x1 := Lib.hid x1
  clear CC
  go_wp2_with fail
  go_ret
  exact ⟨rfl, x1.out⟩
end
end Go.Proofs.Yteaoacinhdjkeaa
end
