/-
  The state of a store of keys; what its calls come to. No conditions.
-/
import Derived.Test.YtonjialkfbbhpaaSkK
import Derived.Test.YtonjialkfbbhpaaMpW
namespace Go.Proofs.Ytonjialkfbbhpaa
open Go.ChangeShapes Go.WideShapes Go.ChangeAt Go.RowKit Go.Deep Go.Maps
set_option maxRecDepth 100000

/-- A key that is kept: whose it is, its number, when it was put. -/
structure Kp where
  pk : List UInt8
  n : Int
  k : List UInt8
  wh : Int
def Kp.ok (x : Kp) : Prop := x.pk.length = 32 ∧ x.k.length = 32 ∧ -9223372036854775808 ≤ x.n ∧ x.n ≤ 9223372036854775807
def Kp.ent (x : Kp) : Value × Value := (.agg (knC x.pk x.n).toArray, .agg (knC x.k x.wh).toArray)
/-- Is it the one? -/
def Kp.at (pk : List UInt8) (n : Int) (x : Kp) : Bool := x.pk == pk && x.n == n
theorem Kp.at_iff {pk : List UInt8} {n : Int} {x : Kp} : x.at pk n = true ↔ x.pk = pk ∧ x.n = n := by simp [Kp.at]
def hasK (L : List Kp) (pk : List UInt8) (n : Int) : Bool := L.any (Kp.at pk n)
def theK (L : List Kp) (pk : List UInt8) (n : Int) : Kp := (L.find? (Kp.at pk n)).getD ⟨[], 0, List.replicate 32 0, 0⟩
def takeL (L : List Kp) (pk : List UInt8) (n : Int) : List Kp := L.filter fun x => !x.at pk n
def putL (L : List Kp) (x : Kp) : List Kp := if L.length < 8 then L ++ [x] else L.drop 1 ++ [x]
/-- What Put tells. -/
def putE (L : List Kp) (pk : List UInt8) (n : Int) : Int := if n < 0 then 1 else if hasK L pk n then 9 else 0
def putR (L : List Kp) (x : Kp) : List Kp := if putE L x.pk x.n = 0 then putL L x else L

/-- The store at block g, its map in block b, keeps the keys of L. -/
structure SK (w : World) (g b : Nat) (L : List Kp) (puts : Int) : Prop where
  cb : Cb w g 80 [.map (some b), .int .i64 puts]
  mp : Mp Try.prog 82 w b (L.map Kp.ent)
  ok : ∀ x ∈ L, x.ok
  inc : L.Pairwise fun x y => x.wh < y.wh
  lt : ∀ x ∈ L, x.wh < puts
  low : 0 ≤ puts
section
variable {w w' : World} {g b : Nat} {L : List Kp} {puts : Int}
theorem SK.stay (h : SK w g b L puts) (hg : w'.heap[g]? = w.heap[g]?) (hb : w'.heap[b]? = w.heap[b]?) : SK w' g b L puts := ⟨hg.trans h.cb, h.mp.stay hb, h.ok, h.inc, h.lt, h.low⟩
theorem SK.ext (h : SK w g b L puts) (x : Ext w w') : SK w' g b L puts := h.stay (x.block _ h.cb.lt) (x.block _ h.mp.lt)
theorem SK.ne (h : SK w g b L puts) : g ≠ b := fun e => by
  obtain ⟨es, c, q⟩ := h.mp.obj
  have := h.cb
  unfold Cb at this
  rw [e, q] at this
  cases this
/-- Another store turns. -/
theorem SK.two {g' b' : Nat} (h : SK w g b L puts) (t : Two g' b' w w') (h1 : g ≠ g') (h2 : g ≠ b') (h3 : b ≠ g') (h4 : b ≠ b') : SK w' g b L puts :=
  h.stay (t.2.2.2.2 g h.cb.lt h1 h2) (t.2.2.2.2 b h.mp.lt h3 h4)
theorem ent_ne {x y : Kp} (hx : x.ok) (hy : y.pk.length = 32) (h : x.at y.pk y.n = false) : x.ent.1 ≠ y.ent.1 := fun e => by
  obtain ⟨h1, h2⟩ := kn_inj hx.1 hy e
  rw [Kp.at_iff.2 ⟨h1, h2⟩] at h; cases h
theorem SK.apart (h : SK w g b L puts) : L.Pairwise fun x y => ¬(x.pk = y.pk ∧ x.n = y.n) := by
  have := h.mp.apart
  rw [List.pairwise_map] at this
  exact this.imp fun h e => h (by unfold Kp.ent; rw [e.1, e.2])
theorem theK_mem {pk : List UInt8} {n : Int} (h : hasK L pk n = true) : theK L pk n ∈ L ∧ (theK L pk n).pk = pk ∧ (theK L pk n).n = n := by
  obtain ⟨x, hx, hat⟩ := List.any_eq_true.1 h
  unfold theK
  cases hf : L.find? (Kp.at pk n) with
  | none => rw [List.find?_eq_none] at hf; exact absurd hat (hf x hx)
  | some y => exact ⟨List.mem_of_find?_eq_some hf, Kp.at_iff.1 (List.find?_some hf)⟩
theorem theK_none {pk : List UInt8} {n : Int} (h : hasK L pk n = false) : theK L pk n = ⟨[], 0, List.replicate 32 0, 0⟩ := by
  unfold theK
  rw [List.find?_eq_none.2 fun x hx q => by rw [hasK, List.any_eq_false] at h; exact h x hx q]
  rfl
theorem theK_k {pk : List UInt8} {n : Int} (hok : ∀ x ∈ L, x.ok) : (theK L pk n).k.length = 32 := by
  cases h : hasK L pk n
  · rw [theK_none h]; rfl
  · exact (hok _ (theK_mem h).1).2.1
/-- What a look-up tells. -/
theorem SK.look (h : SK w g b L puts) {pk : List UInt8} (hp : pk.length = 32) {n : Int} (hn : -9223372036854775808 ≤ n ∧ n ≤ 9223372036854775807) :
    (Instr.lookup 78 (.map (some b)) (.agg (knC pk n).toArray) true).run Try.prog w = .ok (.tuple #[.agg (knC (theK L pk n).k (theK L pk n).wh).toArray, .bool (hasK L pk n)]) w := by
  obtain ⟨kl, hkl⟩ := place_key hp hn
  have hz : (zeroValue 84).run Try.prog w = .ok (.agg (knC (List.replicate 32 0) 0).toArray) w := by kernel_rfl
  rcases h.mp.look place_law Try.underlying78 hz hkl with ⟨v, h1, h2, _⟩ | ⟨h1, h2, _⟩
  · obtain ⟨x, hx, he⟩ := List.mem_map.1 h1
    obtain ⟨e1, e2⟩ := Prod.mk.injEq .. ▸ he
    obtain ⟨q1, q2⟩ := kn_inj (h.ok x hx).1 hp e1
    have hh : hasK L pk n = true := List.any_eq_true.2 ⟨x, hx, Kp.at_iff.2 ⟨q1, q2⟩⟩
    obtain ⟨t1, t2, t3⟩ := theK_mem hh
    have : v = .agg (knC (theK L pk n).k (theK L pk n).wh).toArray := apart_one h.mp.apart h1 (List.mem_map.2 ⟨_, t1, by unfold Kp.ent; rw [t2, t3]⟩)
    rw [h2, hh, this]
  · have hh : hasK L pk n = false := by
      cases q : hasK L pk n
      · rfl
      · obtain ⟨t1, t2, t3⟩ := theK_mem q
        exact absurd (by unfold Kp.ent; rw [t2, t3]) (h1 _ (List.mem_map.2 ⟨_, t1, rfl⟩))
    rw [h2, hh, theK_none hh]
/-- A key is struck from the map. -/
theorem SK.drop (h : SK w g b L puts) {pk : List UInt8} (hp : pk.length = 32) {n : Int} (hn : -9223372036854775808 ≤ n ∧ n ≤ 9223372036854775807) (ty : TypeId) :
    ∃ w', (Builtin.delete_ #[78, 82] ty #[.map (some b), .agg (knC pk n).toArray]).run Try.prog w = .ok (.tuple #[]) w' ∧ SK w' g b (takeL L pk n) puts ∧ w.grownBy w' (some b) := by
  obtain ⟨kl, hkl⟩ := place_key hp hn
  have hmem : ∀ p ∈ L.map Kp.ent, p ∈ (takeL L pk n).map Kp.ent ↔ p.1 ≠ .agg (knC pk n).toArray := fun p hq => by
    obtain ⟨x, hx, rfl⟩ := List.mem_map.1 hq
    constructor
    · intro hm
      obtain ⟨y, hy, he⟩ := List.mem_map.1 hm
      obtain ⟨hy1, hy2⟩ := List.mem_filter.1 hy
      rw [← he]
      exact ent_ne (y := ⟨pk, n, [], 0⟩) (h.ok y hy1) hp (by simpa using hy2)
    · intro hne
      refine List.mem_map.2 ⟨x, List.mem_filter.2 ⟨hx, ?_⟩, rfl⟩
      cases q : x.at pk n
      · rfl
      · obtain ⟨e1, e2⟩ := Kp.at_iff.1 q
        exact absurd (by unfold Kp.ent; rw [e1, e2]) hne
  have hl : (∀ p ∈ L.map Kp.ent, p.1 ≠ .agg (knC pk n).toArray) ∨ ((takeL L pk n).map Kp.ent).length + 1 = (L.map Kp.ent).length := by
    rw [List.length_map, List.length_map]
    have ap := h.apart
    have hok := fun x hx => (h.ok x hx).1
    clear hmem h
    induction L with
    | nil => left; simp
    | cons x r ih =>
      obtain ⟨a1, a2⟩ := List.pairwise_cons.1 ap
      by_cases q : x.at pk n = true
      · right
        obtain ⟨e1, e2⟩ := Kp.at_iff.1 q
        have : takeL (x :: r) pk n = r := by
          unfold takeL
          rw [List.filter_cons_of_neg (by simp [q]), List.filter_eq_self.2 fun y hy => ?_]
          cases qy : y.at pk n
          · rfl
          · obtain ⟨f1, f2⟩ := Kp.at_iff.1 qy
            exact absurd ⟨e1.trans f1.symm, e2.trans f2.symm⟩ (a1 y hy)
        rw [this]; rfl
      · have qf : x.at pk n = false := by simpa using q
        have e : takeL (x :: r) pk n = x :: takeL r pk n := by unfold takeL; rw [List.filter_cons_of_pos (by simp [qf])]
        rcases ih a2 (fun y hy => hok y (List.mem_cons_of_mem _ hy)) with hi | hi
        · by_cases hx : x.ent.1 = .agg (knC pk n).toArray
          · exfalso
            exact q (Kp.at_iff.2 (kn_inj (hok x (List.mem_cons_self ..)) hp hx))
          · left
            intro p hp'
            rcases List.mem_cons.1 hp' with rfl | hp'
            · exact hx
            · exact hi p hp'
        · right; rw [e, List.length_cons, List.length_cons, hi]
  obtain ⟨w1, r1, r2, r3⟩ := h.mp.drop place_law Try.underlying78 hkl (List.Sublist.map _ (List.filter_sublist)) hmem hl ty
  have hgb := h.ne
  exact ⟨w1, r1, ⟨(r3.grown.block g h.cb.lt (fun q => hgb (Option.some.inj q))).trans h.cb, r2, fun x hx => h.ok x (List.mem_filter.1 hx).1, h.inc.sublist (List.filter_sublist), fun x hx => h.lt x (List.mem_filter.1 hx).1, h.low⟩, r3.grown⟩
end
end Go.Proofs.Ytonjialkfbbhpaa
