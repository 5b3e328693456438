import Derived.Test.YteaoacinhdjkeaaSt23c
import Derived.Test.YteaoacinhdjkeaaDkL
import Derived.Test.YteaoacinhdjkeaaPkK
/-
  Strikes: the ledger in memory; follow.
-/
namespace Go.Proofs.Yteaoacinhdjkeaa
open Go.ChangeShapes Go.WideShapes Go.ChangeAt Go.RowKit Go.Deep Go.Maps
set_option maxRecDepth 100000

def zSk : List Value := [.int .i64 0, .int .i64 0, .bool false]
def valS (o : Option Sk) : List Value := o.elim zSk Sk.C
theorem valS_len (o : Option Sk) : (valS o).length = 3 := by cases o <;> rfl
theorem valS_one (o : Option Sk) : ∀ v ∈ valS o, v.oneCell' = true := fun v hv => by
  cases o <;> simp only [valS, zSk, Sk.C, Option.elim, List.mem_cons, List.not_mem_nil, or_false] at hv <;> rcases hv with rfl | rfl | rfl <;> rfl
theorem sk_alloc (w : World) : (zeroValue 117).run Try.prog w = .ok (.agg zSk.toArray) w := by kernel_rfl
theorem sk_built (a b : Int) : Try.prog.built 117 [(0, .int .i64 a), (1, .int .i64 b)] = some #[.int .i64 a, .int .i64 b, .bool false] := by kernel_rfl
/-- The ledger at block lg, of the journal at block g, its map in block lb. -/
structure LG (W : World) (lg g lb : Nat) (K : List Sk) : Prop where
  cb : Cb W lg 121 [.pointer (some ⟨g, 0, none⟩), .map (some lb)]
  mp : Mp Try.prog 3 W lb (K.map Sk.ent)
  ok : OkS K
section
variable {w w' : World} {lg g lb : Nat} {K : List Sk}
theorem LG.ext (h : LG w lg g lb K) (x : Ext w w') : LG w' lg g lb K := ⟨h.cb.ext x, h.mp.ext x, h.ok⟩
theorem LG.ne (h : LG w lg g lb K) : lg ≠ lb := fun e => by
  obtain ⟨es, c, q⟩ := h.mp.obj
  have h1 := h.cb
  unfold Cb at h1
  rw [e, q] at h1
  cases h1
theorem ent_key {K : List Sk} {id : Int} {v : Value} : ((.int .i64 id, v) : Value × Value) ∈ K.map Sk.ent ↔ ∃ s ∈ K, (s.id : Int) = id ∧ v = .agg s.C.toArray := by
  rw [List.mem_map]
  constructor
  · rintro ⟨s, hs, he⟩
    unfold Sk.ent Sk.key at he
    injection he with e1 e2
    injection e1 with _ e1
    exact ⟨s, hs, e1, e2.symm⟩
  · rintro ⟨s, hs, e1, e2⟩
    exact ⟨s, hs, by unfold Sk.ent Sk.key; rw [e1, e2]⟩
theorem LG.look (h : LG w lg g lb K) {id : Int} (hi : -9223372036854775808 ≤ id ∧ id ≤ 9223372036854775807) :
    (Instr.lookup 119 (.map (some lb)) (.int .i64 id) true).run Try.prog w = .ok (.tuple #[.agg (valS (findS K id)).toArray, .bool (findS K id).isSome]) w := by
  rcases h.mp.look int_law Try.underlying119 (sk_alloc w) (int_key Try.underlying3 hi) with ⟨v, h1, h2, _⟩ | ⟨h1, h2, _⟩
  · obtain ⟨s, hs, e1, e2⟩ := ent_key.1 h1
    have := findS_mem h.ok hs
    rw [e1] at this
    rw [h2, this, e2]
    rfl
  · have : findS K id = none := by
      cases q : findS K id with
      | none => rfl
      | some s =>
        obtain ⟨a, b⟩ := findS_some q
        exact absurd rfl (h1 _ (ent_key.2 ⟨s, a, b, rfl⟩))
    rw [h2, this]
    rfl
theorem ents_len (h : OkS K) : (K.map Sk.ent).length < maxLen := by
  have := h.len
  rw [List.length_map]
  unfold maxLen
  omega
theorem LG.add (h : LG w lg g lb K) {r : Rk} (hr : r.acc < 8 ∧ r.id ≤ 1000000 ∧ r.time ≤ 1000000) (hn : findS K (r.id : Int) = none) :
    ∃ w', (Instr.mapUpdate 119 (.map (some lb)) (.int .i64 (r.id : Int)) (.agg #[.int .i64 (r.acc : Int), .int .i64 (r.time : Int), .bool false])).run Try.prog w = .ok () w' ∧ LG w' lg g lb (K ++ [⟨r.id, r.acc, r.time, false⟩]) ∧ w.grownBy w' (some lb) := by
  obtain ⟨w1, r1, r2, r3, _⟩ := h.mp.add int_law Try.underlying119 (ents_len h.ok) (int_key Try.underlying3 (i := (r.id : Int)) (by omega)) (fun p hp e => by
    obtain ⟨k, v⟩ := p
    have e : k = .int .i64 (r.id : Int) := e
    subst e
    obtain ⟨s, hs, e1, _⟩ := ent_key.1 hp
    exact findS_none hn s hs e1) (.agg #[.int .i64 (r.acc : Int), .int .i64 (r.time : Int), .bool false])
  refine ⟨w1, r1, ⟨(r3.block _ h.cb.lt (fun q => h.ne (Option.some.inj q))).trans h.cb, by rw [List.map_append]; exact r2, ?_⟩, r3⟩
  have := h.ok.follow (r := ⟨1, r.acc, r.id, r.time⟩) hr
  unfold followL at this
  rw [if_pos rfl, hn] at this
  exact this
theorem revS_pair (h : OkS K) (id : Nat) : ((revS K id).map Sk.ent).Pairwise fun p q => p.1 ≠ q.1 := by
  unfold revS
  rw [List.map_map, List.pairwise_map]
  refine h.ap.imp fun {a b} hab e => hab ?_
  have k : ∀ s : Sk, ((Sk.ent ∘ fun s : Sk => if s.id = id then { s with rev := true } else s) s).1 = .int .i64 (s.id : Int) := fun s => by
    show (Sk.ent (if s.id = id then { s with rev := true } else s)).1 = _
    split <;> rfl
  rw [k, k] at e
  injection e with _ e
  omega
theorem LG.rev (h : LG w lg g lb K) {id : Nat} (hid : id ≤ 1000000) {s : Sk} (hs : findS K (id : Int) = some s) :
    ∃ w', (Instr.mapUpdate 119 (.map (some lb)) (.int .i64 (id : Int)) (.agg #[.int .i64 (s.acc : Int), .int .i64 (s.time : Int), .bool true])).run Try.prog w = .ok () w' ∧ LG w' lg g lb (revS K id) ∧ w.grownBy w' (some lb) := by
  obtain ⟨hs1, hs2⟩ := findS_some hs
  have hs2 : s.id = id := by omega
  obtain ⟨w1, r1, r2, r3⟩ := h.mp.store int_law Try.underlying119 (E' := (revS K id).map Sk.ent) (key := .int .i64 (id : Int)) (v := .agg #[.int .i64 (s.acc : Int), .int .i64 (s.time : Int), .bool true]) (ents_len h.ok) (int_key Try.underlying3 (by omega)) (revS_pair h.ok id) (fun p => by
    unfold revS
    rw [List.map_map, List.mem_map]
    constructor
    · rintro ⟨t, ht, rfl⟩
      show (Sk.ent (if t.id = id then { t with rev := true } else t)) = _ ∨ (Sk.ent (if t.id = id then { t with rev := true } else t)).1 ≠ _ ∧ (Sk.ent (if t.id = id then { t with rev := true } else t)) ∈ _
      by_cases q : t.id = id
      · left
        have : t = s := by
          by_cases z : t = s
          · exact z
          · exact absurd (q.trans hs2.symm) (ids_apart h.ok.ap t s ht hs1 z)
        subst this
        rw [if_pos q]
        unfold Sk.ent Sk.key Sk.C
        dsimp only
        rw [q]
      · right
        rw [if_neg q]
        refine ⟨fun e => q ?_, List.mem_map.2 ⟨t, ht, rfl⟩⟩
        unfold Sk.ent Sk.key at e
        injection e with _ e
        omega
    · rintro (rfl | ⟨q1, q2⟩)
      · refine ⟨s, hs1, ?_⟩
        show Sk.ent (if s.id = id then { s with rev := true } else s) = _
        rw [if_pos hs2]
        unfold Sk.ent Sk.key Sk.C
        dsimp only
        rw [hs2]
      · obtain ⟨t, ht, rfl⟩ := List.mem_map.1 q2
        refine ⟨t, ht, ?_⟩
        show Sk.ent (if t.id = id then { t with rev := true } else t) = _
        rw [if_neg fun e => q1 (by unfold Sk.ent Sk.key; rw [e])])
  refine ⟨w1, r1, ⟨(r3.block _ h.cb.lt (fun q => h.ne (Option.some.inj q))).trans h.cb, r2, ?_⟩, r3⟩
  have := h.ok.follow (r := ⟨2, 0, id, 0⟩) ⟨by dsimp only; omega, hid, by dsimp only; omega⟩
  unfold followL at this
  dsimp only at this
  rw [if_neg (by omega), if_pos rfl, hs] at this
  exact this
end
end Go.Proofs.Yteaoacinhdjkeaa
