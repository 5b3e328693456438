import Derived.Test.YteaoacinhdjkeaaSt23c
import Derived.Test.YteaoacinhdjkeaaDkL
import Derived.Test.YteaoacinhdjkeaaMpS
section
/-
  Strikes: the ledger in memory; follow.
-/
namespace Go.Proofs.Yteaoacinhdjkeaa
open Go.ChangeShapes Go.WideShapes Go.ChangeAt Go.RowKit Go.Deep Go.Maps
set_option maxRecDepth 100000

def zSk : List Value := [.int .i64 0, .int .i64 0, .bool false]
def valS (o : Option Sk) : List Value := o.elim zSk Sk.C
theorem valS_len (o : Option Sk) : (valS o).length = 3 := by cases o <;> rfl
theorem valS_one (o : Option Sk) : ∀ v ∈ valS o, v.oneCell' = true := fun v hv => by
  cases o <;> simp only [valS, zSk, Sk.C, Option.elim, List.mem_cons, List.not_mem_nil, or_false] at hv <;> rcases hv with rfl | rfl | rfl <;> rfl
theorem sk_alloc (w : World) : (zeroValue 117).run Try.prog w = .ok (.agg zSk.toArray) w := by kernel_rfl
theorem sk_built (a b : Int) : Try.prog.built 117 [(0, .int .i64 a), (1, .int .i64 b)] = some #[.int .i64 a, .int .i64 b, .bool false] := by kernel_rfl
/-- The ledger at block lg, of the journal at block g, its map in block lb. -/
structure LG (W : World) (lg g lb : Nat) (K : List Sk) : Prop where
  cb : Cb W lg 121 [.pointer (some ⟨g, 0, none⟩), .map (some lb)]
  mp : Mp Try.prog 3 W lb (K.map Sk.ent)
  ok : OkS K
section
variable {w w' : World} {lg g lb : Nat} {K : List Sk}
theorem LG.ext (h : LG w lg g lb K) (x : Ext w w') : LG w' lg g lb K := ⟨h.cb.ext x, h.mp.ext x, h.ok⟩
theorem LG.ne (h : LG w lg g lb K) : lg ≠ lb := fun e => by
  obtain ⟨es, c, q⟩ := h.mp.obj
  have h1 := h.cb
  unfold Cb at h1
  rw [e, q] at h1
  cases h1
theorem ent_key {K : List Sk} {id : Int} {v : Value} : ((.int .i64 id, v) : Value × Value) ∈ K.map Sk.ent ↔ ∃ s ∈ K, (s.id : Int) = id ∧ v = .agg s.C.toArray := by
  rw [List.mem_map]
  constructor
  · rintro ⟨s, hs, he⟩
    unfold Sk.ent Sk.key at he
    injection he with e1 e2
    injection e1 with _ e1
    exact ⟨s, hs, e1, e2.symm⟩
  · rintro ⟨s, hs, e1, e2⟩
    exact ⟨s, hs, by unfold Sk.ent Sk.key; rw [e1, e2]⟩
theorem LG.look (h : LG w lg g lb K) {id : Int} (hi : -9223372036854775808 ≤ id ∧ id ≤ 9223372036854775807) :
    (Instr.lookup 119 (.map (some lb)) (.int .i64 id) true).run Try.prog w = .ok (.tuple #[.agg (valS (findS K id)).toArray, .bool (findS K id).isSome]) w := by
  rcases h.mp.look int_law Try.underlying119 (sk_alloc w) (int_key Try.underlying3 hi) with ⟨v, h1, h2, _⟩ | ⟨h1, h2, _⟩
  · obtain ⟨s, hs, e1, e2⟩ := ent_key.1 h1
    have := findS_mem h.ok hs
    rw [e1] at this
    rw [h2, this, e2]
    rfl
  · have : findS K id = none := by
      cases q : findS K id with
      | none => rfl
      | some s =>
        obtain ⟨a, b⟩ := findS_some q
        exact absurd rfl (h1 _ (ent_key.2 ⟨s, a, b, rfl⟩))
    rw [h2, this]
    rfl
theorem ents_len (h : OkS K) : (K.map Sk.ent).length < maxLen := by
  have := h.len
  rw [List.length_map]
  unfold maxLen
  omega
theorem LG.add (h : LG w lg g lb K) {r : Rk} (hr : r.acc < 8 ∧ r.id ≤ 1000000 ∧ r.time ≤ 1000000) (hn : findS K (r.id : Int) = none) :
    ∃ w', (Instr.mapUpdate 119 (.map (some lb)) (.int .i64 (r.id : Int)) (.agg #[.int .i64 (r.acc : Int), .int .i64 (r.time : Int), .bool false])).run Try.prog w = .ok () w' ∧ LG w' lg g lb (K ++ [⟨r.id, r.acc, r.time, false⟩]) ∧ w.grownBy w' (some lb) := by
  obtain ⟨w1, r1, r2, r3, _⟩ := h.mp.add int_law Try.underlying119 (ents_len h.ok) (int_key Try.underlying3 (i := (r.id : Int)) (by omega)) (fun p hp e => by
    obtain ⟨k, v⟩ := p
    have e : k = .int .i64 (r.id : Int) := e
    subst e
    obtain ⟨s, hs, e1, _⟩ := ent_key.1 hp
    exact findS_none hn s hs e1) (.agg #[.int .i64 (r.acc : Int), .int .i64 (r.time : Int), .bool false])
  refine ⟨w1, r1, ⟨(r3.block _ h.cb.lt (fun q => h.ne (Option.some.inj q))).trans h.cb, by rw [List.map_append]; exact r2, ?_⟩, r3⟩
  have := h.ok.follow (r := ⟨1, r.acc, r.id, r.time⟩) hr
  unfold followL at this
  rw [if_pos rfl, hn] at this
  exact this
theorem revS_pair (h : OkS K) (id : Nat) : ((revS K id).map Sk.ent).Pairwise fun p q => p.1 ≠ q.1 := by
  unfold revS
  rw [List.map_map, List.pairwise_map]
  refine h.ap.imp fun {a b} hab e => hab ?_
  have k : ∀ s : Sk, ((Sk.ent ∘ fun s : Sk => if s.id = id then { s with rev := true } else s) s).1 = .int .i64 (s.id : Int) := fun s => by
    show (Sk.ent (if s.id = id then { s with rev := true } else s)).1 = _
    split <;> rfl
  rw [k, k] at e
  injection e with _ e
  omega
theorem LG.rev (h : LG w lg g lb K) {id : Nat} (hid : id ≤ 1000000) {s : Sk} (hs : findS K (id : Int) = some s) :
    ∃ w', (Instr.mapUpdate 119 (.map (some lb)) (.int .i64 (id : Int)) (.agg #[.int .i64 (s.acc : Int), .int .i64 (s.time : Int), .bool true])).run Try.prog w = .ok () w' ∧ LG w' lg g lb (revS K id) ∧ w.grownBy w' (some lb) := by
  obtain ⟨hs1, hs2⟩ := findS_some hs
  have hs2 : s.id = id := by omega
  obtain ⟨w1, r1, r2, r3⟩ := h.mp.store int_law Try.underlying119 (E' := (revS K id).map Sk.ent) (key := .int .i64 (id : Int)) (v := .agg #[.int .i64 (s.acc : Int), .int .i64 (s.time : Int), .bool true]) (ents_len h.ok) (int_key Try.underlying3 (by omega)) (revS_pair h.ok id) (fun p => by
    unfold revS
    rw [List.map_map, List.mem_map]
    constructor
    · rintro ⟨t, ht, rfl⟩
      show (Sk.ent (if t.id = id then { t with rev := true } else t)) = _ ∨ (Sk.ent (if t.id = id then { t with rev := true } else t)).1 ≠ _ ∧ (Sk.ent (if t.id = id then { t with rev := true } else t)) ∈ _
      by_cases q : t.id = id
      · left
        have : t = s := by
          by_cases z : t = s
          · exact z
          · exact absurd (q.trans hs2.symm) (ids_apart h.ok.ap t s ht hs1 z)
        subst this
        rw [if_pos q]
        unfold Sk.ent Sk.key Sk.C
        dsimp only
        rw [q]
      · right
        rw [if_neg q]
        refine ⟨fun e => q ?_, List.mem_map.2 ⟨t, ht, rfl⟩⟩
        unfold Sk.ent Sk.key at e
        injection e with _ e
        omega
    · rintro (rfl | ⟨q1, q2⟩)
      · refine ⟨s, hs1, ?_⟩
        show Sk.ent (if s.id = id then { s with rev := true } else s) = _
        rw [if_pos hs2]
        unfold Sk.ent Sk.key Sk.C
        dsimp only
        rw [hs2]
      · obtain ⟨t, ht, rfl⟩ := List.mem_map.1 q2
        refine ⟨t, ht, ?_⟩
        show Sk.ent (if t.id = id then { t with rev := true } else t) = _
        rw [if_neg fun e => q1 (by unfold Sk.ent Sk.key; rw [e])])
  refine ⟨w1, r1, ⟨(r3.block _ h.cb.lt (fun q => h.ne (Option.some.inj q))).trans h.cb, r2, ?_⟩, r3⟩
  have := h.ok.follow (r := ⟨2, 0, id, 0⟩) ⟨by dsimp only; omega, hid, by dsimp only; omega⟩
  unfold followL at this
  dsimp only at this
  rw [if_neg (by omega), if_pos rfl, hs] at this
  exact this
end
end Go.Proofs.Yteaoacinhdjkeaa
end

section
/-
  Strikes: follow.
-/
namespace Go.Proofs.Yteaoacinhdjkeaa
open Go.ChangeShapes Go.WideShapes Go.ChangeAt Go.RowKit Go.Deep Go.Maps
set_option maxRecDepth 100000

set_option maxHeartbeats 4000000 in
theorem sfollow_calls {w : World} {lg g lb : Nat} {K : List Sk} (h : LG w lg g lb K) {r : Rk} (hr : r.ok) :
    Calls Try.prog 70 #[.pointer (some ⟨lg, 0, none⟩), .agg r.C.toArray] w fun e w' => e = .returned (.tuple #[]) ∧ LG w' lg g lb (followL K r) ∧ Ot (fun i => i = lb) w w' := by
  obtain ⟨k, a, i, t⟩ := r
  have hk := hr.k
  have ha := hr.a
  have hi := hr.i
  have ht := hr.t
  dsimp only at hk ha hi ht
  have hal := sk_alloc
  have L_Z : zSk.length = 3 := rfl
  have LK : Hid (∀ s, Ext w s → (Instr.lookup 119 (.map (some lb)) (.int .i64 (i : Int)) true).run Try.prog s = .ok (.tuple #[.agg (valS (findS K (i : Int))).toArray, .bool (findS K (i : Int)).isSome]) s) := fun s e => (h.ext e).look (by omega)
  have C0 : Hid (∀ s, Ext w s → s.cell? ⟨lg, 1, none⟩ = some (.map (some lb))) := fun s e => (h.ext e).cb.cell rfl
  have SE : Hid (∀ s, Ext w s → LG s lg g lb K) := fun s e => h.ext e
  have llt := h.cb.lt
  have blt := h.mp.lt
  have AD : Hid (findS K (i : Int) = none → ∀ s, Ext w s → ∃ w', (Instr.mapUpdate 119 (.map (some lb)) (.int .i64 (i : Int)) (.agg #[.int .i64 (a : Int), .int .i64 (t : Int), .bool false])).run Try.prog s = .ok () w' ∧ LG w' lg g lb (K ++ [⟨i, a, t, false⟩]) ∧ s.grownBy w' (some lb)) := fun q s e => (h.ext e).add (r := ⟨1, a, i, t⟩) ⟨ha, hi, ht⟩ q
  have RV : Hid (∀ x, findS K (i : Int) = some x → ∀ s, Ext w s → ∃ w', (Instr.mapUpdate 119 (.map (some lb)) (.int .i64 (i : Int)) (.agg #[.int .i64 (x.acc : Int), .int .i64 (x.time : Int), .bool true])).run Try.prog s = .ok () w' ∧ LG w' lg g lb (revS K i) ∧ s.grownBy w' (some lb)) := fun x q s e => (h.ext e).rev hi q
  have FL : Hid (followL K ⟨k, a, i, t⟩ = if k = 1 then (if (findS K (i : Int)).isSome then K else K ++ [⟨i, a, t, false⟩]) else (if k = 2 then (if (findS K (i : Int)).isSome then revS K i else K) else K)) := rfl
  have BS := Lib.hid (sk_built (a : Int) (t : Int))
  generalize followL K ⟨k, a, i, t⟩ = KK at *
  obtain ⟨oo, hoo⟩ : ∃ q, q = findS K (i : Int) := ⟨_, rfl⟩
  rw [← hoo] at LK AD RV FL
  clear hoo h hr
  have L_V := valS_len oo
  have O_V := one_cells (valS_one oo)
  obtain ⟨VV, hVV⟩ : ∃ q, q = valS oo := ⟨_, rfl⟩
  rw [← hVV] at LK L_V O_V
  have S_V : VV.toArray.size = 3 := by rw [List.size_toArray, L_V]
  have S_Z : zSk.toArray.size = 3 := rfl
  replace hVV := Lib.hid hVV
  generalize zSk = ZZ at *
  obtain ⟨g3, hg3⟩ : ∃ q, q = w.heap.size := ⟨_, rfl⟩
  have B0 : Hid (Cb (w.alloc (.cells (⟨k, a, i, t⟩ : Rk).C.toArray 124)) g3 124 [.int .i64 (k : Int), .int .i64 (a : Int), .int .i64 (i : Int), .int .i64 (t : Int)] ∧ Ext w (w.alloc (.cells (⟨k, a, i, t⟩ : Rk).C.toArray 124))) := by rw [hg3]; exact ⟨Cb.new _ _ _, (Ext.refl w).alloc _⟩
  go_enter Try.func70, Try.ntmps70
  go_upto_region 1 with fail
  refine wp_gen (fun W => Cb W g3 124 [.int .i64 (k : Int), .int .i64 (a : Int), .int .i64 (i : Int), .int .i64 (t : Int)] ∧ Ext w W) B0.out ?_
  rw [← hg3]
  have wg3 : w.heap.size ≤ g3 := Nat.le_of_eq hg3.symm
  replace hg3 := Lib.hid hg3
  clear B0
  rintro w1 ⟨k3, x1⟩
  have T1 : Hid (∀ s, Below w1.heap.size w1.drew s → s.cell? ⟨lg, 1, none⟩ = some (.map (some lb)) ∧ s.cell? ⟨g3, 2, none⟩ = some (.int .i64 (i : Int)) ∧ Ext w s ∧ Cb s g3 124 [.int .i64 (k : Int), .int .i64 (a : Int), .int .i64 (i : Int), .int .i64 (t : Int)]) := fun s e => by
    have e' : Ext w1 s := Below.trans (Below.drew (Below.refl _ _)) e
    exact ⟨C0.out _ (x1.trans e'), (k3.ext e').cell rfl, x1.trans e', k3.ext e'⟩
  have l3 := k3.lt
  have lw1 := x1.size
  clear k3 x1
  have hB : w1.drew.heap.size = w1.heap.size := rfl
  refine qgB w1.heap.size [0, 1, 2, 3, 4, 5, 6, 7, 8, 9, 10, 11, 12] [10, 11] ?_
  generalize w1.heap.size = g4 at *
  generalize w1.drew = W at *
  clear w1
  iterate 6 ((first | refine qR _ (fun w' e => And.intro (T1.out w' e).1 (T1.out w' e).2.1) ?_ | refine qS ?_); go_frame)
  refine qV rfl (fun w' => Ext w w') (fun w' e => (T1.out w' e).2.2.1) (.tuple #[.agg VV.toArray, .bool oo.isSome]) (fun w' hF => exec_lookup rfl rfl rfl (LK.out _ hF)) ?_
  go_frame
  repeat ((first | refine qR0 ?_ | refine qS ?_); go_frame)
  refine qD fun K_ hK => ?_
  go_simp
  refine hK.out _ _ (Below.alloc (Below.refl _ _) (Nat.le_of_eq hB.symm) _) ?_
  clear hK K_
  try go_frame
  have c9 : Cb (W.alloc (.cells ZZ.toArray 117)) g4 117 ZZ := by rw [← hB]; exact Cb.new _ _ _
  refine qD fun K_ hK => ?_
  refine wp_store_row _ _ _ rfl g4 VV.toArray rfl rfl 117 ZZ.toArray c9 (by rw [S_V]; rfl) (by rw [S_V, S_Z]) O_V ?_
  refine hK.out _ _ (below_setRow (Below.refl _ _) (Nat.le_refl _) _) ?_
  clear hK K_
  try go_frame
  repeat ((first | refine qR0 ?_ | refine qS ?_); go_frame)
  refine seq_done ?_
  have E2 : Below g4 W ((W.alloc (.cells ZZ.toArray 117)).setRow g4 VV.toArray) := below_setRow (Below.alloc (Below.refl _ _) (Nat.le_of_eq hB.symm) _) (Nat.le_refl _) _
  refine gen_q (fun s => Cb s g4 117 VV ∧ Cb s g3 124 [.int .i64 (k : Int), .int .i64 (a : Int), .int .i64 (i : Int), .int .i64 (t : Int)] ∧ Ext w s) ⟨c9.set, (T1.out _ E2).2.2.2, (T1.out _ E2).2.2.1⟩ ?_
  clear T1 E2 c9 LK hB
  clear W
  rintro w2 ⟨k4, k3, x2⟩
  have c30 := k3.cell (j := 0) rfl
  rcases hk with rfl | rfl
  · cases oo with
    | some x =>
      have F : Hid (KK = K) := FL.out
      replace x2 := Lib.hid x2
      replace k3 := Lib.hid k3
      replace k4 := Lib.hid k4
      go_wp2_with fail
      go_end0
      exact ⟨rfl, by rw [F.out]; exact SE.out _ x2.out, Ot.of_ext x2.out⟩
    | none =>
      have F : Hid (KK = K ++ [⟨i, a, t, false⟩]) := FL.out
      have A2 := Lib.hid (AD.out rfl w2.drew x2.drew)
      have gb3 : g3 ≠ lb := by have := wg3; omega
      have T3 : Hid (∀ s, w2.drew.grownBy s (some lb) → s.cell? ⟨lg, 1, none⟩ = some (.map (some lb)) ∧ s.cell? ⟨g3, 2, none⟩ = some (.int .i64 (i : Int)) ∧ s.cell? ⟨g3, 1, none⟩ = some (.int .i64 (a : Int)) ∧ s.cell? ⟨g3, 3, none⟩ = some (.int .i64 (t : Int))) := fun s e => by
        have hb : ∀ j, j < w2.heap.size → j ≠ lb → s.heap[j]? = w2.heap[j]? := fun j hj hne => e.block j hj (fun q => hne (Option.some.inj q))
        have q3 : Cb s g3 124 [.int .i64 ((1 : Nat) : Int), .int .i64 (a : Int), .int .i64 (i : Int), .int .i64 (t : Int)] := (hb g3 k3.lt gb3).trans k3
        exact ⟨(World.cell?_of_block (hb lg (Nat.lt_of_lt_of_le llt x2.size) (SE.out w (Ext.refl w)).ne)).trans (C0.out _ x2), q3.cell rfl, q3.cell rfl, q3.cell rfl⟩
      have X2 : Hid (Ot (fun i => i = lb) w w2.drew) := Ot.of_ext x2.drew
      clear AD RV FL SE C0 x2 k3 k4
      go_upto_region 3 with fail
      clear c30
      refine qgW lb [0, 1, 2, 3, 4, 5, 6, 7, 8, 9, 10, 11] [11] ?_
      generalize w2.drew = W at *
      clear w2
      iterate 10 ((first | refine qR _ (fun w' e => (And.intro (T3.out w' e).1 (And.intro (T3.out w' e).2.1 (And.intro (T3.out w' e).2.2.1 (T3.out w' e).2.2.2)))) ?_ | refine qS ?_); go_frame)
      refine qV rfl (fun _ => True) (fun _ _ => trivial) (.agg #[.int .i64 (a : Int), .int .i64 (t : Int), .bool false]) (fun w' _ => (exec_build_as rfl (by simp only [List.map_toArray, List.map_cons, List.map_nil]; exact BS.out))) ?_
      go_frame
      refine qD fun K_ hK => ?_
      obtain ⟨w3, d1, d2, d3⟩ := A2.out
      refine wp_mapUpdate rfl rfl rfl rfl d1 ?_
      refine hK.out _ _ d3 ?_
      clear hK K_
      try simp only [Act.put]
      refine seq_done ?_
      have FIN : Hid (LG w3 lg g lb KK ∧ Ot (fun i => i = lb) w w3) := ⟨by rw [F.out]; exact d2, X2.out.trans (Ot.of_grown d3 rfl)⟩
      clear A2 T3 X2 d1 d2 d3 BS
      go_wp2_with fail
      go_end0
      exact ⟨rfl, FIN.out⟩
  · cases oo with
    | none =>
      have F : Hid (KK = K) := FL.out
      replace x2 := Lib.hid x2
      replace k3 := Lib.hid k3
      replace k4 := Lib.hid k4
      go_wp2_with fail
      go_end0
      exact ⟨rfl, by rw [F.out]; exact SE.out _ x2.out, Ot.of_ext x2.out⟩
    | some x =>
      have F : Hid (KK = revS K i) := FL.out
      rw [hVV.out] at k4
      have e4 : valS (some x) = [.int .i64 (x.acc : Int), .int .i64 (x.time : Int), .bool x.rev] := rfl
      rw [e4] at k4
      have c42 := k4.cell (j := 2) rfl
      have f42 := k4.frozen 2
      have gr := gr_cell22 w2 g4 2 (.bool true)
      have g34 : g3 ≠ g4 := by omega
      have K5 : Hid (Cb (w2.setCell ⟨g4, 2, none⟩ (.bool true)) g4 117 [.int .i64 (x.acc : Int), .int .i64 (x.time : Int), .bool true] ∧ Cb (w2.setCell ⟨g4, 2, none⟩ (.bool true)) g3 124 [.int .i64 ((2 : Nat) : Int), .int .i64 (a : Int), .int .i64 (i : Int), .int .i64 (t : Int)] ∧ Ext w (w2.setCell ⟨g4, 2, none⟩ (.bool true))) := ⟨k4.setCell, (gr.block _ k3.lt (fun q => g34 (Option.some.inj q))).trans k3, Ot.ext (p := fun i => i = g4) x2 (Ot.of_grown gr rfl) (fun i q => by omega)⟩
      clear gr x2 k3 k4 e4 AD FL
      go_upto_region 6 with fail
      refine wp_gen (fun W => Cb W g4 117 [.int .i64 (x.acc : Int), .int .i64 (x.time : Int), .bool true] ∧ Cb W g3 124 [.int .i64 ((2 : Nat) : Int), .int .i64 (a : Int), .int .i64 (i : Int), .int .i64 (t : Int)] ∧ Ext w W) K5.out ?_
      clear K5 c30 c42 f42 w2
      rintro w2 ⟨k4, k3, x2⟩
      have A2 := Lib.hid (RV.out x rfl w2.drew x2.drew)
      have gb3 : g3 ≠ lb := by have := wg3; omega
      have gb4 : g4 ≠ lb := by omega
      obtain ⟨NV, hNV⟩ : ∃ q, q = [Value.int .i64 (x.acc : Int), .int .i64 (x.time : Int), .bool true] := ⟨_, rfl⟩
      have S_NV : NV.toArray.size = 3 := by rw [hNV]; rfl
      rw [← hNV] at k4
      have eNV : (#[.int .i64 (x.acc : Int), .int .i64 (x.time : Int), .bool true] : Array Value) = NV.toArray := by rw [hNV]
      rw [eNV] at A2
      have T3 : Hid (∀ s, w2.drew.grownBy s (some lb) → (s.cell? ⟨lg, 1, none⟩ = some (.map (some lb)) ∧ s.cell? ⟨g3, 2, none⟩ = some (.int .i64 (i : Int))) ∧ Cb s g4 117 NV) := fun s e => by
        have hb : ∀ j, j < w2.heap.size → j ≠ lb → s.heap[j]? = w2.heap[j]? := fun j hj hne => e.block j hj (fun q => hne (Option.some.inj q))
        have q3 : Cb s g3 124 [.int .i64 ((2 : Nat) : Int), .int .i64 (a : Int), .int .i64 (i : Int), .int .i64 (t : Int)] := (hb g3 k3.lt gb3).trans k3
        exact ⟨⟨(World.cell?_of_block (hb lg (Nat.lt_of_lt_of_le llt x2.size) (SE.out w (Ext.refl w)).ne)).trans (C0.out _ x2), q3.cell rfl⟩, (hb g4 k4.lt gb4).trans k4⟩
      have X2 : Hid (Ot (fun i => i = lb) w w2.drew) := Ot.of_ext x2.drew
      replace hNV := Lib.hid hNV
      clear RV SE C0 x2 k3 k4 eNV
      refine qgW lb [0, 1, 2, 3, 4, 5, 6, 7] [7] ?_
      generalize w2.drew = W at *
      clear w2
      iterate 6 ((first | refine qR _ (fun w' e => (And.intro (T3.out w' e).1.1 (T3.out w' e).1.2)) ?_ | refine qS ?_); go_frame)
      refine qV rfl (fun w' => w'.heap[g4]? = some (.cells NV.toArray 117 (0, 0))) (fun w' e => (T3.out w' e).2) (.agg NV.toArray) (fun w' hF => exec_load_row rfl rfl hF rfl rfl (by rw [S_NV]; rfl)) ?_
      go_frame
      refine qD fun K_ hK => ?_
      obtain ⟨w3, d1, d2, d3⟩ := A2.out
      refine wp_mapUpdate rfl rfl rfl rfl d1 ?_
      refine hK.out _ _ d3 ?_
      clear hK K_
      try simp only [Act.put]
      refine seq_done ?_
      have FIN : Hid (LG w3 lg g lb KK ∧ Ot (fun i => i = lb) w w3) := ⟨by rw [F.out]; exact d2, X2.out.trans (Ot.of_grown d3 rfl)⟩
      clear A2 T3 X2 d1 d2 d3
      go_wp2_with fail
      go_end0
      exact ⟨rfl, FIN.out⟩
end Go.Proofs.Yteaoacinhdjkeaa
end
