import Derived.Test.YteaoacinhdjkeaaPkC
import Derived.Test.YteaoacinhdjkeaaPkG
/-
  Strikes: the mathematics; the small functions; a record's bytes.
-/
namespace Go.Proofs.Yteaoacinhdjkeaa
open Go.ChangeShapes Go.WideShapes Go.ChangeAt Go.RowKit Go.Deep Go.Maps
set_option maxRecDepth 100000

/-- A strike; a record. -/
structure Sk where
  id : Nat
  acc : Nat
  time : Nat
  rev : Bool
structure Rk where
  kind : Nat
  acc : Nat
  id : Nat
  time : Nat
def Sk.C (s : Sk) : List Value := [.int .i64 (s.acc : Int), .int .i64 (s.time : Int), .bool s.rev]
def Sk.key (s : Sk) : Value := .int .i64 (s.id : Int)
def Sk.ent (s : Sk) : Value × Value := (s.key, .agg s.C.toArray)
def Rk.C (r : Rk) : List Value := [.int .i64 (r.kind : Int), .int .i64 (r.acc : Int), .int .i64 (r.id : Int), .int .i64 (r.time : Int)]
structure Rk.ok (r : Rk) : Prop where
  k : r.kind = 1 ∨ r.kind = 2
  a : r.acc < 8
  i : r.id ≤ 1000000
  t : r.time ≤ 1000000
/-- The strike with a number. -/
def findS (K : List Sk) (id : Int) : Option Sk := K.find? fun s => decide ((s.id : Int) = id)
def revS (K : List Sk) (id : Nat) : List Sk := K.map fun s => if s.id = id then { s with rev := true } else s
/-- A record is followed. -/
def followL (K : List Sk) (r : Rk) : List Sk :=
  if r.kind = 1 then (if (findS K (r.id : Int)).isSome then K else K ++ [⟨r.id, r.acc, r.time, false⟩]) else (if r.kind = 2 then (if (findS K (r.id : Int)).isSome then revS K r.id else K) else K)
structure OkS (K : List Sk) : Prop where
  ap : K.Pairwise fun x y => x.id ≠ y.id
  ok : ∀ s ∈ K, s.acc < 8 ∧ s.id ≤ 1000000 ∧ s.time ≤ 1000000
section
variable {K : List Sk}
theorem OkS.nil : OkS [] := ⟨List.Pairwise.nil, fun s h => by cases h⟩
theorem OkS.len (h : OkS K) : K.length ≤ 1000001 := by
  have := List.Nodup.length_le_of_subset (l₁ := K.map (·.id)) (l₂ := List.range 1000001) (by rw [List.Nodup, List.pairwise_map]; exact h.ap) (fun x hx => by
    obtain ⟨s, hs, rfl⟩ := List.mem_map.1 hx
    have := (h.ok s hs).2.1
    exact List.mem_range.2 (by omega))
  rw [List.length_map, List.length_range] at this
  exact this
theorem findS_some {id : Int} {s : Sk} (h : findS K id = some s) : s ∈ K ∧ (s.id : Int) = id := by
  unfold findS at h
  have h1 := List.mem_of_find?_eq_some h
  have h2 := List.find?_some h
  exact ⟨h1, by simpa using h2⟩
theorem findS_none {id : Int} (h : findS K id = none) : ∀ s ∈ K, (s.id : Int) ≠ id := fun s hs => by
  unfold findS at h
  have := List.find?_eq_none.1 h s hs
  simpa using this
theorem ids_apart : ∀ {K : List Sk}, K.Pairwise (fun x y => x.id ≠ y.id) → ∀ x y, x ∈ K → y ∈ K → x ≠ y → x.id ≠ y.id
  | [], _, x, _, hx, _, _ => by cases hx
  | a :: r, h, x, y, hx, hy, hxy => by
    obtain ⟨p1, p2⟩ := List.pairwise_cons.1 h
    rcases List.mem_cons.1 hx with ex | hx
    · rcases List.mem_cons.1 hy with ey | hy
      · exact absurd (ex.trans ey.symm) hxy
      · rw [ex]; exact p1 y hy
    · rcases List.mem_cons.1 hy with ey | hy
      · rw [ey]; exact fun z => p1 x hx z.symm
      · exact ids_apart p2 x y hx hy hxy
theorem findS_mem (h : OkS K) {s : Sk} (hs : s ∈ K) : findS K (s.id : Int) = some s := by
  cases e : findS K (s.id : Int) with
  | none => exact absurd rfl (findS_none e s hs)
  | some t =>
    obtain ⟨h1, h2⟩ := findS_some e
    have h2 : t.id = s.id := by omega
    by_cases q : t = s
    · rw [q]
    · exfalso
      have := h.ap
      have hne := ids_apart this
      exact hne t s h1 hs q h2
theorem OkS.follow (h : OkS K) {r : Rk} (hr : r.acc < 8 ∧ r.id ≤ 1000000 ∧ r.time ≤ 1000000) : OkS (followL K r) := by
  unfold followL
  split
  · split
    · exact h
    · rename_i q
      have q : findS K (r.id : Int) = none := by simpa using q
      refine ⟨?_, fun s hs => ?_⟩
      · rw [List.pairwise_append]
        refine ⟨h.ap, List.pairwise_singleton _ _, fun a ha b hb => ?_⟩
        rw [List.mem_singleton.1 hb]
        have := findS_none q a ha
        show a.id ≠ r.id
        omega
      · rcases List.mem_append.1 hs with hs | hs
        · exact h.ok s hs
        · rw [List.mem_singleton.1 hs]; exact hr
  · split
    · split
      · refine ⟨?_, fun s hs => ?_⟩
        · unfold revS
          rw [List.pairwise_map]
          refine h.ap.imp fun {a b} hab => ?_
          have e : ∀ s : Sk, (if s.id = r.id then { s with rev := true } else s).id = s.id := fun s => by split <;> rfl
          rw [e, e]
          exact hab
        · obtain ⟨t, ht, rfl⟩ := List.mem_map.1 hs
          have := h.ok t ht
          split <;> exact this
      · exact h
    · exact h
end
/-- The bytes of a record, and back. -/
def bytesR (r : Rk) : List UInt8 := ([UInt8.ofNat r.kind, UInt8.ofNat r.acc] ++ (lowL r.id 4).reverse) ++ (lowL r.time 4).reverse
theorem bytesR_len (r : Rk) : (bytesR r).length = 10 := by simp [bytesR, lowL_len]
def rkOf (b : List UInt8) : Rk := ⟨bt b 0, bt b 1, ofLowL ((b.drop 2).take 4).reverse, ofLowL (b.drop 6).reverse⟩
def okR (r : Rk) : Bool := (decide (r.kind = 1) || decide (r.kind = 2)) && decide (r.acc < 8) && decide (r.id ≤ 1000000) && decide (r.time ≤ 1000000)
theorem okR_iff {r : Rk} : okR r = true ↔ r.ok := by
  unfold okR
  simp only [Bool.and_eq_true, Bool.or_eq_true, decide_eq_true_eq]
  exact ⟨fun ⟨⟨⟨a, b⟩, c⟩, d⟩ => ⟨a, b, c, d⟩, fun h => ⟨⟨⟨h.k, h.a⟩, h.i⟩, h.t⟩⟩
def recR (b : List UInt8) : Option Rk := if b.length = 10 ∧ okR (rkOf b) = true then some (rkOf b) else none
theorem recR_bytes {r : Rk} (h : r.ok) : recR (bytesR r) = some r := by
  have h1 := h.a
  have h2 := h.i
  have h3 := h.t
  have hk : r.kind < 256 := by rcases h.k with q | q <;> omega
  have e : rkOf (bytesR r) = r := by
    obtain ⟨k, a, i, t⟩ := r
    unfold rkOf bytesR
    have d2 : ((([UInt8.ofNat k, UInt8.ofNat a] ++ (lowL i 4).reverse) ++ (lowL t 4).reverse).drop 2).take 4 = (lowL i 4).reverse := by
      rw [List.append_assoc, show List.drop 2 ([UInt8.ofNat k, UInt8.ofNat a] ++ ((lowL i 4).reverse ++ (lowL t 4).reverse)) = (lowL i 4).reverse ++ (lowL t 4).reverse from rfl]
      rw [List.take_append_of_le_length (by simp [lowL_len]), List.take_of_length_le (by simp [lowL_len])]
    have d6 : (([UInt8.ofNat k, UInt8.ofNat a] ++ (lowL i 4).reverse) ++ (lowL t 4).reverse).drop 6 = (lowL t 4).reverse := by
      rw [List.drop_append_of_le_length (by simp [lowL_len]), List.drop_of_length_le (by simp [lowL_len]), List.nil_append]
    dsimp only at h1 h2 h3 hk ⊢
    rw [d2, d6, List.reverse_reverse, List.reverse_reverse, ofLowL_lowL, ofLowL_lowL, Nat.mod_eq_of_lt (by omega), Nat.mod_eq_of_lt (by omega)]
    have b0 : bt ([UInt8.ofNat k, UInt8.ofNat a] ++ (lowL i 4).reverse ++ (lowL t 4).reverse) 0 = k := by
      show (UInt8.ofNat k).toNat = k
      simp; omega
    have b1 : bt ([UInt8.ofNat k, UInt8.ofNat a] ++ (lowL i 4).reverse ++ (lowL t 4).reverse) 1 = a := by
      show (UInt8.ofNat a).toNat = a
      simp; omega
    rw [b0, b1]
  unfold recR
  rw [e, if_pos ⟨bytesR_len r, okR_iff.2 h⟩]
/-- The strikes of records, in their order. -/
def kAdd (K : List Sk) (b : List UInt8) : List Sk := match recR b with
  | some r => followL K r
  | none => K
def kOf (L : List (List UInt8)) : List Sk := L.foldl kAdd []
theorem OkS.add {K : List Sk} (h : OkS K) (b : List UInt8) : OkS (kAdd K b) := by
  unfold kAdd
  cases e : recR b with
  | none => exact h
  | some r =>
    unfold recR at e
    split at e
    · rename_i q
      have := okR_iff.1 q.2
      rw [Option.some.inj e] at this
      exact h.follow ⟨this.a, this.i, this.t⟩
    · cases e
theorem OkS.fold {L : List (List UInt8)} : ∀ {K : List Sk}, OkS K → OkS (L.foldl kAdd K) := by
  induction L with
  | nil => exact fun h => h
  | cons b r ih => exact fun h => ih (h.add b)
theorem kOf_ok (L : List (List UInt8)) : OkS (kOf L) := OkS.fold OkS.nil
theorem kOf_snoc (L : List (List UInt8)) (b : List UInt8) : kOf (L ++ [b]) = kAdd (kOf L) b := by unfold kOf; rw [List.foldl_append]; rfl

/-- The small functions. -/
def accB23 (a : Int) : Bool := decide (0 ≤ a) && decide (a < 8)
def numB23 (a : Int) : Bool := decide (0 ≤ a) && decide (a ≤ 1000000)
theorem sacc_calls {w : World} {n : Int} : Calls Try.prog 57 #[.int .i64 n] w fun e w' => e = .returned (.bool (accB23 n)) ∧ w' = w := by
  unfold accB23
  go_enter Try.func57, Try.ntmps57
  by_cases h0 : 0 ≤ n
  · have h0' : decide (0 ≤ n) = true := decide_eq_true h0
    by_cases h8 : n < 8
    · have h8' : decide (n < 8) = true := decide_eq_true h8
      rw [h0', h8']
      go_wp2_with fail
      go_ret
      exact ⟨rfl, rfl⟩
    · have h8' : decide (n < 8) = false := decide_eq_false h8
      rw [h0', h8']
      go_wp2_with fail
      go_ret
      exact ⟨rfl, rfl⟩
  · have h0' : decide (0 ≤ n) = false := decide_eq_false h0
    rw [h0']
    go_wp2_with fail
    go_ret
    exact ⟨rfl, rfl⟩
theorem snum_calls {w : World} {n : Int} : Calls Try.prog 58 #[.int .i64 n] w fun e w' => e = .returned (.bool (numB23 n)) ∧ w' = w := by
  unfold numB23
  go_enter Try.func58, Try.ntmps58
  by_cases h0 : 0 ≤ n
  · have h0' : decide (0 ≤ n) = true := decide_eq_true h0
    by_cases h8 : n ≤ 1000000
    · have h8' : decide (n ≤ 1000000) = true := decide_eq_true h8
      rw [h0', h8']
      go_wp2_with fail
      go_ret
      exact ⟨rfl, rfl⟩
    · have h8' : decide (n ≤ 1000000) = false := decide_eq_false h8
      rw [h0', h8']
      go_wp2_with fail
      go_ret
      exact ⟨rfl, rfl⟩
  · have h0' : decide (0 ≤ n) = false := decide_eq_false h0
    rw [h0']
    go_wp2_with fail
    go_ret
    exact ⟨rfl, rfl⟩
end Go.Proofs.Yteaoacinhdjkeaa
