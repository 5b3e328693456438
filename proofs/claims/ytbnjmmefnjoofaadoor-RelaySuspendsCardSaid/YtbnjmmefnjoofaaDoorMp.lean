/-
  Maps that hold just the entries of a list, each element read as itself; a range over one. No conditions.
-/
import Derived.Test.YtbnjmmefnjoofaaDoorBase
import Derived.Maps.RangeWalk
import Derived.Maps.Ext
namespace Go.Proofs.YtbnjmmefnjoofaaDoor
open Go.ChangeShapes Go.WideShapes Go.ChangeAt Go.RowKit Go.Deep Go.Maps
open Go.WideElems (Fit rd rg pl rd_key rd_val rg_of)

/-- An element is read as itself. -/
def rawE (v : Value) : Option (DataW Value × List MemPlace) := some (.held v, [])
/-- The datum holds just the entries of the list. -/
structure Vw (P : Program) (k : TypeId) (D : DataW Value) (E : List (Value × Value)) : Prop where
  apart : E.Pairwise (fun p q => p.1 ≠ q.1)
  size : Maps.size D = E.length
  into : ∀ p ∈ E, ∃ kl, keyOf P k p.1 = some kl ∧ Maps.has D kl = true ∧ ∀ z, D.atKey kl z = .held p.2
  back : ∀ kl, Maps.has D kl = true → ∃ p ∈ E, keyOf P k p.1 = some kl
section
variable {P : Program} {k t e : TypeId} {w w' : World} {b : Nat} {E : List (Value × Value)} {D : DataW Value}
theorem Vw.hit (h : Vw P k D E) (K : Keyed P k) {key : Value} {kl : Lit} (hk : keyOf P k key = some kl) (hh : Maps.has D kl = true) : ∃ v, (key, v) ∈ E ∧ ∀ z, D.atKey kl z = .held v := by
  obtain ⟨p, hp, q⟩ := h.back kl hh
  obtain ⟨kl', h1, _, h3⟩ := h.into p hp
  obtain rfl : kl' = kl := by rw [q] at h1; exact (Option.some.inj h1).symm
  obtain rfl : p.1 = key := K.inj q hk
  exact ⟨p.2, hp, h3⟩
theorem Vw.miss (h : Vw P k D E) {key : Value} {kl : Lit} (hk : keyOf P k key = some kl) (hh : Maps.has D kl = false) : ∀ p ∈ E, p.1 ≠ key := fun p hp e => by
  obtain ⟨kl', h1, h2, _⟩ := h.into p hp
  rw [e, hk] at h1
  obtain rfl := Option.some.inj h1
  rw [hh] at h2; cases h2
theorem Vw.has_false (h : Vw P k D E) (K : Keyed P k) {key : Value} {kl : Lit} (hk : keyOf P k key = some kl) (hm : ∀ p ∈ E, p.1 ≠ key) : Maps.has D kl = false := by
  cases hh : Maps.has D kl
  · rfl
  · obtain ⟨p, hp, q⟩ := h.back kl hh
    exact absurd (K.inj q hk) (hm p hp)
theorem apart_one {E : List (Value × Value)} (h : E.Pairwise (fun p q => p.1 ≠ q.1)) {key v v' : Value} (h1 : (key, v) ∈ E) (h2 : (key, v') ∈ E) : v = v' := by
  induction E with
  | nil => cases h1
  | cons x r ih =>
    obtain ⟨a, b⟩ := List.pairwise_cons.1 h
    rcases List.mem_cons.1 h1 with q1 | q1 <;> rcases List.mem_cons.1 h2 with q2 | q2
    · rw [← q1] at q2; exact (congrArg Prod.snd q2).symm
    · exact ((a _ q2) (by rw [← q1])).elim
    · exact ((a _ q1) (by rw [← q2])).elim
    · exact ih b q1 q2
theorem Vw.nil (P : Program) (k : TypeId) : Vw P k (.map []) [] := ⟨List.Pairwise.nil, rfl, (fun p hp => by cases hp), (fun kl h => by cases h)⟩
/-- A new key. -/
theorem Vw.add (h : Vw P k D E) (K : Keyed P k) (T : Tidy D) {key v : Value} {kl : Lit} (hk : keyOf P k key = some kl) (hm : ∀ p ∈ E, p.1 ≠ key) : Vw P k (D.put kl (.held v)) (E ++ [(key, v)]) := by
  have hf := h.has_false K hk hm
  have IK := K.key hk
  refine ⟨?_, ?_, fun p hp => ?_, fun kl' hh => ?_⟩
  · rw [List.pairwise_append]
    exact ⟨h.apart, List.pairwise_singleton _ _, fun a ha b hb => by rw [List.mem_singleton.1 hb]; exact hm a ha⟩
  · rw [size_put T, hf, h.size, List.length_append]; rfl
  · rcases List.mem_append.1 hp with q | q
    · obtain ⟨kl', h1, h2, h3⟩ := h.into p q
      have hne : kl' ≠ kl := fun e => by rw [e, hf] at h2; cases h2
      exact ⟨kl', h1, by rw [has_put_other hne]; exact h2, fun z => by rw [atKey_put_other hne]; exact h3 z⟩
    · rw [List.mem_singleton.1 q]
      exact ⟨kl, hk, has_put_same T.isMap IK _, fun z => atKey_put_same T.isMap IK _ z⟩
  · by_cases e : kl' = kl
    · subst e
      exact ⟨(key, v), by simp, hk⟩
    · rw [has_put_other e] at hh
      obtain ⟨p, hp, q⟩ := h.back kl' hh
      exact ⟨p, List.mem_append_left _ hp, q⟩
/-- A key is struck. -/
theorem Vw.del (h : Vw P k D E) (K : Keyed P k) (T : Tidy D) {E' : List (Value × Value)} {key : Value} {kl : Lit} (hk : keyOf P k key = some kl) (hs : E'.Sublist E) (hm : ∀ p ∈ E, p ∈ E' ↔ p.1 ≠ key) (hl : E'.length + (if Maps.has D kl then 1 else 0) = E.length) : Vw P k (D.del kl) E' := by
  refine ⟨h.apart.sublist hs, ?_, fun p hp => ?_, fun kl' hh => ?_⟩
  · have := size_del (k := kl) T
    rw [h.size] at this
    omega
  · have hp' := hs.subset hp
    obtain ⟨kl', h1, h2, h3⟩ := h.into p hp'
    have hne : kl' ≠ kl := fun e => (hm p hp').1 hp (K.inj (e ▸ h1) hk)
    exact ⟨kl', h1, by rw [has_del_other hne]; exact h2, fun z => by rw [atKey_del_other hne]; exact h3 z⟩
  · by_cases e : kl' = kl
    · subst e
      rw [has_del_same] at hh; cases hh
    · rw [has_del_other e] at hh
      obtain ⟨p, hp, q⟩ := h.back kl' hh
      refine ⟨p, (hm p hp).2 fun r => e ?_, q⟩
      rw [r, hk] at q
      exact (Option.some.inj q).symm

/-- Block b is a map that holds just the entries E. -/
def Mp (P : Program) (k : TypeId) (w : World) (b : Nat) (E : List (Value × Value)) : Prop := ∃ D, w.ownsMap P k rawE b E.length D ∧ Vw P k D E
theorem owns_size {n : Nat} (h : w.ownsMap P k rawE b n D) : w.ownsMap P k rawE b (Maps.size D) D := by
  obtain ⟨es, clock, hb, F, hs, rfl⟩ := h
  exact ⟨es, clock, hb, F, by simp [Maps.size, length_sorted], rfl⟩
theorem Mp.of {n : Nat} (h : w.ownsMap P k rawE b n D) (v : Vw P k D E) : Mp P k w b E := ⟨D, by have := owns_size h; rwa [v.size] at this, v⟩
theorem Mp.lt (h : Mp P k w b E) : b < w.heap.size := by obtain ⟨D, h, _⟩ := h; exact h.lt
theorem Mp.kept {row : Option Nat} (h : Mp P k w b E) (hg : w.grownBy w' row) (hne : some b ≠ row) : Mp P k w' b E := by obtain ⟨D, h, v⟩ := h; exact ⟨D, h.kept hg hne, v⟩
theorem Mp.stay (h : Mp P k w b E) (hb : w'.heap[b]? = w.heap[b]?) : Mp P k w' b E := by
  obtain ⟨D, ⟨es, clock, h1, h2⟩, v⟩ := h
  exact ⟨D, ⟨es, clock, hb.trans h1, h2⟩, v⟩
theorem Mp.ext (h : Mp P k w b E) (x : Ext w w') : Mp P k w' b E := h.stay (x.block _ h.lt)
theorem Mp.obj (h : Mp P k w b E) : ∃ es c, w.heap[b]? = some (.map es c) := by
  obtain ⟨D, ⟨es, clock, h1, _⟩, v⟩ := h
  exact ⟨es, clock, h1⟩
theorem Mp.apart (h : Mp P k w b E) : E.Pairwise (fun p q => p.1 ≠ q.1) := by obtain ⟨D, _, v⟩ := h; exact v.apart
theorem Mp.made (w : World) (P : Program) (k : TypeId) : Mp P k (w.alloc (.map #[] 0)) w.heap.size [] := ⟨_, World.ownsMap_made w P k rawE, Vw.nil P k⟩
theorem Mp.look (h : Mp P k w b E) (K : Keyed P k) (ht : P.underlying t = some (.map k e)) {z : Value} (hz : (zeroValue e).run P w = .ok z w) {key : Value} {kl : Lit} (hkey : keyOf P k key = some kl) :
    (∃ v, (key, v) ∈ E ∧ (Instr.lookup t (.map (some b)) key true).run P w = .ok (.tuple #[v, .bool true]) w ∧ (Instr.lookup t (.map (some b)) key false).run P w = .ok v w) ∨
    ((∀ p ∈ E, p.1 ≠ key) ∧ (Instr.lookup t (.map (some b)) key true).run P w = .ok (.tuple #[z, .bool false]) w ∧ (Instr.lookup t (.map (some b)) key false).run P w = .ok z w) := by
  obtain ⟨D, h, v⟩ := h
  obtain ⟨x, ps, r1, r2⟩ := h.look_ok K ht hz (zd := .held z) (zp := []) rfl hkey
  obtain ⟨x', ps', r1', r2'⟩ := h.lookup K ht hz (zd := .held z) (zp := []) rfl hkey
  injection r2 with r2
  injection r2' with r2'
  have e1 := congrArg Prod.fst r2
  have e2 := congrArg Prod.fst r2'
  cases hh : Maps.has D kl
  · right
    rw [atKey_of_not_has hh] at e1 e2
    injection e1 with e1
    injection e2 with e2
    subst e1
    subst e2
    rw [hh] at r1
    exact ⟨v.miss hkey hh, r1, r1'⟩
  · left
    obtain ⟨y, h1, h2⟩ := v.hit K hkey hh
    rw [h2] at e1 e2
    injection e1 with e1
    injection e2 with e2
    subst e1
    subst e2
    rw [hh] at r1
    exact ⟨_, h1, r1, r1'⟩
theorem Mp.add (h : Mp P k w b E) (K : Keyed P k) (ht : P.underlying t = some (.map k e)) (hn : E.length < maxLen) {key : Value} {kl : Lit} (hkey : keyOf P k key = some kl) (hm : ∀ p ∈ E, p.1 ≠ key) (v : Value) :
    ∃ w', (Instr.mapUpdate t (.map (some b)) key v).run P w = .ok () w' ∧ Mp P k w' b (E ++ [(key, v)]) ∧ w.grownBy w' (some b) ∧ ∃ es c, w'.heap[b]? = some (.map es c) := by
  obtain ⟨D, h, vw⟩ := h
  obtain ⟨w1, r1, r2, r3⟩ := h.update K ht hn hkey (d := .held v) (ps := []) rfl
  have m : Mp P k w1 b (E ++ [(key, v)]) := Mp.of r2 (vw.add K (h.tidy K) hkey hm)
  exact ⟨w1, r1, m, r3, m.obj⟩
theorem Mp.drop (h : Mp P k w b E) (K : Keyed P k) (ht : P.underlying t = some (.map k e)) {key : Value} {kl : Lit} (hkey : keyOf P k key = some kl) {E' : List (Value × Value)} (hs : E'.Sublist E) (hm : ∀ p ∈ E, p ∈ E' ↔ p.1 ≠ key) (hl : (∀ p ∈ E, p.1 ≠ key) ∨ E'.length + 1 = E.length) (ty : TypeId) :
    ∃ w', (Builtin.delete_ #[t, k] ty #[.map (some b), key]).run P w = .ok (.tuple #[]) w' ∧ Mp P k w' b E' ∧ w.mapTurned w' b := by
  obtain ⟨D, h, vw⟩ := h
  obtain ⟨w1, r1, r2, r3⟩ := h.drop K ht hkey ty
  refine ⟨w1, r1, Mp.of r2 (vw.del K (h.tidy K) hkey hs hm ?_), r3⟩
  rcases hl with hl | hl
  · rw [vw.has_false K hkey hl]
    have : E' = E := hs.eq_of_length_le (List.Nodup.length_le_of_subset (vw.apart.imp fun h e => h (congrArg Prod.fst e)) fun p hp => (hm p hp).2 (hl p hp))
    rw [this]; rfl
  · rcases hh : Maps.has D kl with _ | _
    · exfalso
      have hmiss := vw.miss hkey hh
      have : E.length ≤ E'.length := List.Nodup.length_le_of_subset (vw.apart.imp fun h e => h (congrArg Prod.fst e)) fun p hp => (hm p hp).2 (hmiss p hp)
      omega
    · simpa using hl
theorem Mp.len (h : Mp P k w b E) (ht : P.underlying t = some (.map k e)) (ty : TypeId) : (Builtin.len_ #[t] ty #[.map (some b)]).run P w = .ok (.int .i64 (E.length : Int)) w := by
  obtain ⟨D, h, vw⟩ := h
  rw [h.len ht ty, vw.size]

/-- A range over the map in block b is under way, its iterator in block r; lf: the keys that are still to come. -/
def Mr (P : Program) (k : TypeId) (w : World) (b r : Nat) (E : List (Value × Value)) (lf : Value → Prop) (cnt : Nat) : Prop :=
  ∃ D left, w.ranges P k rawE b r E.length D left cnt ∧ Vw P k D E ∧ ∀ p ∈ E, (lf p.1 ↔ ∃ kl, keyOf P k p.1 = some kl ∧ left kl = true)
theorem Mr.mp {r cnt : Nat} {lf : Value → Prop} (h : Mr P k w b r E lf cnt) : Mp P k w b E := by obtain ⟨D, left, h, v, _⟩ := h; exact ⟨D, h.owns, v⟩
theorem Mr.kept {r cnt : Nat} {lf : Value → Prop} {row : Option Nat} (h : Mr P k w b r E lf cnt) (hg : w.grownBy w' row) (hb : some b ≠ row) (hr : some r ≠ row) : Mr P k w' b r E lf cnt := by
  obtain ⟨D, left, h, v⟩ := h
  exact ⟨D, left, h.kept hg hb hr, v⟩
theorem Mr.ext {r cnt : Nat} {lf : Value → Prop} (h : Mr P k w b r E lf cnt) (x : Ext w w') : Mr P k w' b r E lf cnt := h.kept (row := none) ⟨x.os, x.tape, x.output, x.size, fun i hi _ => x.block i hi⟩ (by simp) (by simp)
theorem Mr.lt {r cnt : Nat} {lf : Value → Prop} (h : Mr P k w b r E lf cnt) : r < w.heap.size := by obtain ⟨D, left, h, _⟩ := h; exact h.lt
theorem Mr.left_eq {r cnt : Nat} {lf : Value → Prop} (h : Mr P k w b r E lf cnt) : w.rangeLeft b r = cnt := by obtain ⟨D, left, h, _⟩ := h; exact h.left_eq
theorem Mp.range (h : Mp P k w b E) (K : Keyed P k) (ht : P.underlying t = some (.map k e)) :
    ∃ w', (Instr.range t (.map (some b))).run P w = .ok (.pointer (some ⟨w.heap.size, 0, none⟩)) w' ∧ Mr P k w' b w.heap.size E (fun _ => True) E.length ∧ Ext w w' := by
  obtain ⟨D, h, vw⟩ := h
  obtain ⟨w1, r1, r2, r3, r4⟩ := h.range K ht
  rw [vw.size] at r2
  exact ⟨w1, r1, ⟨D, _, r2, vw, fun p hp => ⟨fun _ => by obtain ⟨kl, h1, h2, _⟩ := vw.into p hp; exact ⟨kl, h1, h2⟩, fun _ => trivial⟩⟩, ⟨r3.os, r3.tape, r3.output, r3.size, fun i hi => r3.block i hi (by simp)⟩⟩
/-- The step: nothing is left, or an entry comes. -/
theorem Mr.next {r cnt : Nat} {lf : Value → Prop} (h : Mr P k w b r E lf cnt) (K : Keyed P k) (ty : TypeId) :
    ((∀ p ∈ E, ¬ lf p.1) ∧ (Instr.next (.pointer (some ⟨r, 0, none⟩)) false ty).run P w = .ok (.tuple #[.bool false]) w) ∨
    ∃ p ∈ E, lf p.1 ∧ ∃ w' cnt', (Instr.next (.pointer (some ⟨r, 0, none⟩)) false ty).run P w = .ok (.tuple #[.bool true, p.1, p.2]) w' ∧ Mr P k w' b r E (fun key => lf key ∧ key ≠ p.1) cnt' ∧ cnt' < cnt ∧
      w.grownBy w' (some r) ∧ w'.heap.size = w.heap.size ∧ (Instr.entry (.pointer (some ⟨r, 0, none⟩))).run P w' = .ok (.tuple #[p.1, p.2]) w' := by
  obtain ⟨D, left, h, vw, hl⟩ := h
  rcases h.next K ty with ⟨h0, hn, hrun⟩ | ⟨key, v, kl, y, w1, cnt', hkey, hlk, hv, hat, hrun, hrg, hlt, hgr, hsz, hen⟩
  · refine .inl ⟨fun p hp q => ?_, hrun⟩
    obtain ⟨kl, _, h2⟩ := (hl p hp).1 q
    rw [hn kl] at h2; cases h2
  · right
    have hh : Maps.has D kl = true := has_true_of_atKey hat
    obtain ⟨v', h1, h2⟩ := vw.hit K hkey hh
    have : v = v' := by
      have q := (hat (.held v)).symm.trans (h2 (.held v))
      injection hv with hv
      rw [← hv] at q
      injection q
    subst this
    refine ⟨(key, v), h1, (hl _ h1).2 ⟨kl, hkey, hlk⟩, w1, cnt', hrun, ⟨D, _, hrg, vw, fun p hp => ?_⟩, hlt, hgr, hsz, hen⟩
    show (lf p.1 ∧ p.1 ≠ key) ↔ _
    rw [hl p hp]
    constructor
    · rintro ⟨⟨kl', q1, q2⟩, q3⟩
      refine ⟨kl', q1, ?_⟩
      show (left kl' && !kl'.sameKey kl) = true
      rw [q2, sameKey_ne (fun e => q3 (K.inj (q1.trans (congrArg some e)) hkey))]
      rfl
    · rintro ⟨kl', q1, q2⟩
      have q2 : (left kl' && !kl'.sameKey kl) = true := q2
      simp only [Bool.and_eq_true, Bool.not_eq_true'] at q2
      refine ⟨⟨kl', q1, q2.1⟩, fun e => ?_⟩
      rw [show p.1 = key from e, hkey] at q1
      obtain rfl := Option.some.inj q1
      rw [WideAt.sameKey_self (K.key hkey)] at q2
      cases q2.2
end
end Go.Proofs.YtbnjmmefnjoofaaDoor
