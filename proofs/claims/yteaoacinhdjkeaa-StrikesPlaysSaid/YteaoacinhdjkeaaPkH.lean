import Derived.Test.YteaoacinhdjkeaaSt23c
import Derived.Test.YteaoacinhdjkeaaDkL
import Derived.Test.YteaoacinhdjkeaaMpS
import Derived.Test.YteaoacinhdjkeaaPkO
import Derived.Test.YteaoacinhdjkeaaPkK
section
/-
  Strikes: the ledger in memory; follow.
-/
namespace Go.Proofs.Yteaoacinhdjkeaa
open Go.ChangeShapes Go.WideShapes Go.ChangeAt Go.RowKit Go.Deep Go.Maps
set_option maxRecDepth 100000

def zSk : List Value := [.int .i64 0, .int .i64 0, .bool false]
def valS (o : Option Sk) : List Value := o.elim zSk Sk.C
theorem valS_len (o : Option Sk) : (valS o).length = 3 := by cases o <;> rfl
theorem valS_one (o : Option Sk) : ∀ v ∈ valS o, v.oneCell' = true := fun v hv => by
  cases o <;> simp only [valS, zSk, Sk.C, Option.elim, List.mem_cons, List.not_mem_nil, or_false] at hv <;> rcases hv with rfl | rfl | rfl <;> rfl
theorem sk_alloc (w : World) : (zeroValue 117).run Try.prog w = .ok (.agg zSk.toArray) w := by kernel_rfl
theorem sk_built (a b : Int) : Try.prog.built 117 [(0, .int .i64 a), (1, .int .i64 b)] = some #[.int .i64 a, .int .i64 b, .bool false] := by kernel_rfl
/-- The ledger at block lg, of the journal at block g, its map in block lb. -/
structure LG (W : World) (lg g lb : Nat) (K : List Sk) : Prop where
  cb : Cb W lg 121 [.pointer (some ⟨g, 0, none⟩), .map (some lb)]
  mp : Mp Try.prog 3 W lb (K.map Sk.ent)
  ok : OkS K
section
variable {w w' : World} {lg g lb : Nat} {K : List Sk}
theorem LG.ext (h : LG w lg g lb K) (x : Ext w w') : LG w' lg g lb K := ⟨h.cb.ext x, h.mp.ext x, h.ok⟩
theorem LG.ne (h : LG w lg g lb K) : lg ≠ lb := fun e => by
  obtain ⟨es, c, q⟩ := h.mp.obj
  have h1 := h.cb
  unfold Cb at h1
  rw [e, q] at h1
  cases h1
theorem ent_key {K : List Sk} {id : Int} {v : Value} : ((.int .i64 id, v) : Value × Value) ∈ K.map Sk.ent ↔ ∃ s ∈ K, (s.id : Int) = id ∧ v = .agg s.C.toArray := by
  rw [List.mem_map]
  constructor
  · rintro ⟨s, hs, he⟩
    unfold Sk.ent Sk.key at he
    injection he with e1 e2
    injection e1 with _ e1
    exact ⟨s, hs, e1, e2.symm⟩
  · rintro ⟨s, hs, e1, e2⟩
    exact ⟨s, hs, by unfold Sk.ent Sk.key; rw [e1, e2]⟩
theorem LG.look (h : LG w lg g lb K) {id : Int} (hi : -9223372036854775808 ≤ id ∧ id ≤ 9223372036854775807) :
    (Instr.lookup 119 (.map (some lb)) (.int .i64 id) true).run Try.prog w = .ok (.tuple #[.agg (valS (findS K id)).toArray, .bool (findS K id).isSome]) w := by
  rcases h.mp.look int_law Try.underlying119 (sk_alloc w) (int_key Try.underlying3 hi) with ⟨v, h1, h2, _⟩ | ⟨h1, h2, _⟩
  · obtain ⟨s, hs, e1, e2⟩ := ent_key.1 h1
    have := findS_mem h.ok hs
    rw [e1] at this
    rw [h2, this, e2]
    rfl
  · have : findS K id = none := by
      cases q : findS K id with
      | none => rfl
      | some s =>
        obtain ⟨a, b⟩ := findS_some q
        exact absurd rfl (h1 _ (ent_key.2 ⟨s, a, b, rfl⟩))
    rw [h2, this]
    rfl
theorem ents_len (h : OkS K) : (K.map Sk.ent).length < maxLen := by
  have := h.len
  rw [List.length_map]
  unfold maxLen
  omega
theorem LG.add (h : LG w lg g lb K) {r : Rk} (hr : r.acc < 8 ∧ r.id ≤ 1000000 ∧ r.time ≤ 1000000) (hn : findS K (r.id : Int) = none) :
    ∃ w', (Instr.mapUpdate 119 (.map (some lb)) (.int .i64 (r.id : Int)) (.agg #[.int .i64 (r.acc : Int), .int .i64 (r.time : Int), .bool false])).run Try.prog w = .ok () w' ∧ LG w' lg g lb (K ++ [⟨r.id, r.acc, r.time, false⟩]) ∧ w.grownBy w' (some lb) := by
  obtain ⟨w1, r1, r2, r3, _⟩ := h.mp.add int_law Try.underlying119 (ents_len h.ok) (int_key Try.underlying3 (i := (r.id : Int)) (by omega)) (fun p hp e => by
    obtain ⟨k, v⟩ := p
    have e : k = .int .i64 (r.id : Int) := e
    subst e
    obtain ⟨s, hs, e1, _⟩ := ent_key.1 hp
    exact findS_none hn s hs e1) (.agg #[.int .i64 (r.acc : Int), .int .i64 (r.time : Int), .bool false])
  refine ⟨w1, r1, ⟨(r3.block _ h.cb.lt (fun q => h.ne (Option.some.inj q))).trans h.cb, by rw [List.map_append]; exact r2, ?_⟩, r3⟩
  have := h.ok.follow (r := ⟨1, r.acc, r.id, r.time⟩) hr
  unfold followL at this
  rw [if_pos rfl, hn] at this
  exact this
theorem revS_pair (h : OkS K) (id : Nat) : ((revS K id).map Sk.ent).Pairwise fun p q => p.1 ≠ q.1 := by
  unfold revS
  rw [List.map_map, List.pairwise_map]
  refine h.ap.imp fun {a b} hab e => hab ?_
  have k : ∀ s : Sk, ((Sk.ent ∘ fun s : Sk => if s.id = id then { s with rev := true } else s) s).1 = .int .i64 (s.id : Int) := fun s => by
    show (Sk.ent (if s.id = id then { s with rev := true } else s)).1 = _
    split <;> rfl
  rw [k, k] at e
  injection e with _ e
  omega
theorem LG.rev (h : LG w lg g lb K) {id : Nat} (hid : id ≤ 1000000) {s : Sk} (hs : findS K (id : Int) = some s) :
    ∃ w', (Instr.mapUpdate 119 (.map (some lb)) (.int .i64 (id : Int)) (.agg #[.int .i64 (s.acc : Int), .int .i64 (s.time : Int), .bool true])).run Try.prog w = .ok () w' ∧ LG w' lg g lb (revS K id) ∧ w.grownBy w' (some lb) := by
  obtain ⟨hs1, hs2⟩ := findS_some hs
  have hs2 : s.id = id := by omega
  obtain ⟨w1, r1, r2, r3⟩ := h.mp.store int_law Try.underlying119 (E' := (revS K id).map Sk.ent) (key := .int .i64 (id : Int)) (v := .agg #[.int .i64 (s.acc : Int), .int .i64 (s.time : Int), .bool true]) (ents_len h.ok) (int_key Try.underlying3 (by omega)) (revS_pair h.ok id) (fun p => by
    unfold revS
    rw [List.map_map, List.mem_map]
    constructor
    · rintro ⟨t, ht, rfl⟩
      show (Sk.ent (if t.id = id then { t with rev := true } else t)) = _ ∨ (Sk.ent (if t.id = id then { t with rev := true } else t)).1 ≠ _ ∧ (Sk.ent (if t.id = id then { t with rev := true } else t)) ∈ _
      by_cases q : t.id = id
      · left
        have : t = s := by
          by_cases z : t = s
          · exact z
          · exact absurd (q.trans hs2.symm) (ids_apart h.ok.ap t s ht hs1 z)
        subst this
        rw [if_pos q]
        unfold Sk.ent Sk.key Sk.C
        dsimp only
        rw [q]
      · right
        rw [if_neg q]
        refine ⟨fun e => q ?_, List.mem_map.2 ⟨t, ht, rfl⟩⟩
        unfold Sk.ent Sk.key at e
        injection e with _ e
        omega
    · rintro (rfl | ⟨q1, q2⟩)
      · refine ⟨s, hs1, ?_⟩
        show Sk.ent (if s.id = id then { s with rev := true } else s) = _
        rw [if_pos hs2]
        unfold Sk.ent Sk.key Sk.C
        dsimp only
        rw [hs2]
      · obtain ⟨t, ht, rfl⟩ := List.mem_map.1 q2
        refine ⟨t, ht, ?_⟩
        show Sk.ent (if t.id = id then { t with rev := true } else t) = _
        rw [if_neg fun e => q1 (by unfold Sk.ent Sk.key; rw [e])])
  refine ⟨w1, r1, ⟨(r3.block _ h.cb.lt (fun q => h.ne (Option.some.inj q))).trans h.cb, r2, ?_⟩, r3⟩
  have := h.ok.follow (r := ⟨2, 0, id, 0⟩) ⟨by dsimp only; omega, hid, by dsimp only; omega⟩
  unfold followL at this
  dsimp only at this
  rw [if_neg (by omega), if_pos rfl, hs] at this
  exact this
end
end Go.Proofs.Yteaoacinhdjkeaa
end

section
/-
  The document's OfHigh.
-/
namespace Go.Proofs.Yteaoacinhdjkeaa
open Go.ChangeShapes Go.WideShapes Go.ChangeAt Go.RowKit Go.Deep

/-- The number of bytes, the highest first, one by one. -/
def ofHighAt (xs : List UInt8) : Nat → Nat
  | 0 => 0
  | k + 1 => ofHighAt xs k * 256 + bt xs k
theorem ofHighAt_lt (xs : List UInt8) : ∀ k, ofHighAt xs k < 256 ^ k
  | 0 => by simp [ofHighAt]
  | k + 1 => by
    have := ofHighAt_lt xs k
    have := bt_lt xs k
    rw [ofHighAt, Nat.pow_succ]
    omega
theorem ofHighAt_eq {xs : List UInt8} : ∀ {k : Nat}, k ≤ xs.length → ofHighAt xs k = ofLowL (xs.take k).reverse
  | 0, _ => by simp [ofHighAt, ofLowL]
  | k + 1, h => by
    rw [ofHighAt, ofHighAt_eq (by omega), List.take_succ_eq_append_getElem (by omega), List.reverse_append]
    simp [ofLowL, bt, List.getD, show k < xs.length by omega]
    omega

set_option maxHeartbeats 400000 in
theorem refOfHigh_calls {A : Option Addr} {n c : Nat} {m : Nat} {xs : List UInt8} {w : World} (h : Bs w A n c xs) (hm8 : m ≤ 8) (hmn : m ≤ n) (hM : m = n ∨ m = 8) :
    Calls Try.prog 71 #[.slice A n c] w fun e w' => e = .returned (.int .u64 (ofLowL (xs.take m).reverse : Int)) ∧ w' = w := by
  have h1 := h.le
  have h2 := h.cap
  have hf : Hid (ofHighAt xs m = ofLowL (xs.take m).reverse) := ofHighAt_eq (by rw [h.len]; exact hmn)
  go_enter Try.func71, Try.ntmps71
  go_wp2
  go_loop [3, 4] (fun x i => ∃ k : Nat, k ≤ m ∧ i = .int .i64 k ∧ x = .int .u64 (ofHighAt xs k : Int)) (fun _ i => m - (intOf i).toNat)
  case atStart => exact ⟨0, Nat.zero_le _, rfl, rfl⟩
  case round =>
    obtain ⟨k, hk, rfl, rfl⟩ := hrel
    by_cases hlt : k < m
    · obtain ⟨b, off, rfl, hb, hc⟩ := h.pos (by omega)
      have g1 := hc k (by omega)
      have hbt := bt_lt xs k
      have hlt2 : ofHighAt xs k < 72057594037927936 := Nat.lt_of_lt_of_le (ofHighAt_lt xs k) (Nat.pow_le_pow_right (by omega) (show k ≤ 7 by omega))
      have hsucc : Hid ((ofHighAt xs (k + 1) : Int) = (ofHighAt xs k : Int) * 256 + (bt xs k : Int)) := by unfold Hid; rw [ofHighAt]; omega
      have t1 : (k : Int) < 8 := by omega
      have t2 : (k : Int) < (n : Int) := by omega
      clear hc hM
      go_wp2
      go_round
      case rel => exact ⟨k + 1, by omega, by go_num, congrArg (Value.int .u64) hsucc.out.symm⟩
      case measure => simp [intOf]; omega
    · obtain rfl : k = m := by omega
      rcases hM with rfl | rfl
      · go_wp2
        go_ret
        exact ⟨ret_int (by rw [hf.out]), rfl⟩
      · by_cases q : 8 < n
        · go_wp2
          go_ret
          exact ⟨ret_int (by rw [hf.out]), rfl⟩
        · obtain rfl : n = 8 := by omega
          go_wp2
          go_ret
          exact ⟨ret_int (by rw [hf.out]), rfl⟩
end Go.Proofs.Yteaoacinhdjkeaa
end

section
/-
  palfreyref23: record, at, Time; the document's ledger in memory.
-/
namespace Go.Proofs.Yteaoacinhdjkeaa
open Go.ChangeShapes Go.WideShapes Go.ChangeAt Go.RowKit Go.Deep Go.Maps
set_option maxRecDepth 100000

theorem rtime23_calls {w : World} {n : Int} : Calls Try.prog 60 #[.int .i64 n] w fun e w' => e = .returned (.bool (numB23 n)) ∧ w' = w := by
  unfold numB23
  go_enter Try.func60, Try.ntmps60
  by_cases h0 : 0 ≤ n
  · have h0' : decide (0 ≤ n) = true := decide_eq_true h0
    by_cases h8 : n ≤ 1000000
    · have h8' : decide (n ≤ 1000000) = true := decide_eq_true h8
      rw [h0', h8']
      go_wp2_with fail
      go_ret
      exact ⟨rfl, rfl⟩
    · have h8' : decide (n ≤ 1000000) = false := decide_eq_false h8
      rw [h0', h8']
      go_wp2_with fail
      go_ret
      exact ⟨rfl, rfl⟩
  · have h0' : decide (0 ≤ n) = false := decide_eq_false h0
    rw [h0']
    go_wp2_with fail
    go_ret
    exact ⟨rfl, rfl⟩
set_option maxHeartbeats 4000000 in
theorem rrecord23_calls {w : World} {k a i t : Nat} (h1 : k < 256) (h2 : a < 256) (h3 : i < 4294967296) (h4 : t < 4294967296) :
    Calls Try.prog 62 #[.int .u8 (k : Int), .int .i64 (a : Int), .int .i64 (i : Int), .int .i64 (t : Int)] w (RetOwn (bytesR ⟨k, a, i, t⟩) w) := by
  have HI : Hid (∀ (s : World) (n : Nat), n < 4294967296 → Calls Try.prog 67 #[.int .u64 (n : Int), .int .i64 4] s (RetOwn (lowL n 4).reverse s)) := fun s n hn => refHighO_calls (n := n) (m := 4) (many := 4) (w := s) (by omega) (by omega) (by omega) (by omega) (by omega)
  have m2 : IntKind.u8.wrap (a : Int) = (a : Int) := IntWalk.u8_in _ (by omega)
  have m3 : IntKind.u64.wrap (i : Int) = (i : Int) := IntWalk.u64_in _ (by omega)
  have m4 : IntKind.u64.wrap (t : Int) = (t : Int) := IntWalk.u64_in _ (by omega)
  have V1 : ((UInt8.ofNat k).toNat : Int) = (k : Int) := by
    have : (UInt8.ofNat k).toNat = k := by simp; omega
    omega
  have V2 : ((UInt8.ofNat a).toNat : Int) = (a : Int) := by
    have : (UInt8.ofNat a).toNat = a := by simp; omega
    omega
  have HB : Hid (bytesR ⟨k, a, i, t⟩ = ([UInt8.ofNat k, UInt8.ofNat a] ++ (lowL i 4).reverse) ++ (lowL t 4).reverse) := rfl
  have Li : ((lowL i 4).reverse).length = 4 := by rw [List.length_reverse, lowL_len]
  have Lt : ((lowL t 4).reverse).length = 4 := by rw [List.length_reverse, lowL_len]
  generalize bytesR ⟨k, a, i, t⟩ = BR at *
  have ot := own_two23 w (UInt8.ofNat k) (UInt8.ofNat a)
  rw [V1, V2] at ot
  have x1 : Ext w (w.alloc (.cells #[.int .u8 (k : Int), .int .u8 (a : Int)] 5)) := (Ext.refl w).alloc _
  replace ot := Lib.hid ot
  replace x1 := Lib.hid x1
  have HI1 := Lib.hid (HI.out (w.alloc (.cells #[.int .u8 (k : Int), .int .u8 (a : Int)] 5)) i h3)
  go_enter Try.func62, Try.ntmps62
  go_wp2_with fail
  refine HI1.out.mono ?_
  rintro e w2 ⟨A2, n2, cc2, rfl, o2, x2⟩
  obtain rfl : n2 = 4 := by rw [← o2.len, Li]
  have o12 := Lib.hid (ot.out.ext x2)
  have b2 := Lib.hid o2.bs
  have X2 := Lib.hid (x1.out.trans x2)
  have sz2 : w.heap.size ≤ w2.heap.size := X2.out.size
  clear o2 x2 HI1 ot x1
  go_upto_region 2 with (at_builtin; refine wpList_append_bs rfl (B := w.heap.size) (s := .tmp 13) (x := .tmp 16) rfl rfl rfl o12.out b2.out (by omega) sz2 ?_; intro D3 cc3 w3 o3 hg3 hbl3; replace o3 := Lib.hid o3; have x3 := Lib.hid (X2.out.trans' hbl3))
  clear o12 b2 X2 sz2 hg3 hbl3
  go_wp2_with fail
  refine (HI.out w3 t h4).mono ?_
  rintro e w4 ⟨A4, n4, cc4, rfl, o4, x4⟩
  obtain rfl : n4 = 4 := by rw [← o4.len, Lt]
  have o34 := Lib.hid (o3.out.ext x4)
  have b4 := Lib.hid o4.bs
  have X4 := Lib.hid (x3.out.trans x4)
  have sz4 : w.heap.size ≤ w4.heap.size := X4.out.size
  clear o3 o4 x3 x4
  go_wp2_with (at_builtin; refine wpList_append_bs rfl (B := w.heap.size) (s := .tmp 18) (x := .tmp 21) rfl rfl rfl o34.out b4.out (by omega) sz4 ?_; intro D5 cc5 w5 o5 hg5 hbl5; replace o5 := Lib.hid o5; have x5 := Lib.hid (X4.out.trans' hbl5))
  go_ret
  exact ⟨D5, _, cc5, rfl, by rw [HB.out]; exact o5.out, x5.out⟩
/-- A strike as the document keeps it. -/
def Sk.R (s : Sk) : List Value := [.int .i64 (s.id : Int), .int .i64 (s.acc : Int), .int .i64 (s.time : Int), .bool s.rev]
/-- The document's ledger at block rg, of its journal at block g. -/
def RL (lo : Nat → Prop) (w : World) (rg g : Nat) (K : List Sk) : Prop :=
  ∃ A n c, Cb w rg 114 [.pointer (some ⟨g, 0, none⟩), .slice A n c] ∧ Cs w 4 A n c (K.map Sk.R) ∧ (0 < n → ∀ q, A = some q → lo q.block ∧ ∃ cs, w.heap[q.block]? = some (.cells cs 128 (0, 0)))
section
variable {w w' : World} {lo : Nat → Prop} {rg g : Nat} {K : List Sk}
theorem RL.keep (h : RL lo w rg g K) (hg : w'.heap[rg]? = w.heap[rg]?) (kk : ∀ (i : Nat) (cs : Array Value), w.heap[i]? = some (Obj.cells cs 128 (0, 0)) → w'.heap[i]? = some (Obj.cells cs 128 (0, 0))) : RL lo w' rg g K := by
  obtain ⟨A, n, c, h1, h2, h3⟩ := h
  refine ⟨A, n, c, hg.trans h1, ⟨h2.1, h2.2.1, fun h0 => ?_⟩, fun h0 q hq => ?_⟩
  · obtain ⟨b, off, hA, hb, hc⟩ := h2.2.2 h0
    obtain ⟨_, cs, hcs⟩ := h3 h0 _ hA
    have k := kk _ _ hcs
    exact ⟨b, off, hA, heap_lt k, fun q v hv => (cell_of_heap21 (k.trans hcs.symm) _).trans (hc q v hv)⟩
  · obtain ⟨lq, cs, hcs⟩ := h3 h0 q hq
    exact ⟨lq, cs, kk _ _ hcs⟩
theorem RL.sub {lo' : Nat → Prop} (h : RL lo w rg g K) (k : ∀ i, lo i → lo' i) : RL lo' w rg g K := by
  obtain ⟨A, n, c, h1, h2, h3⟩ := h
  exact ⟨A, n, c, h1, h2, fun h0 q hq => ⟨k _ (h3 h0 q hq).1, (h3 h0 q hq).2⟩⟩
theorem RL.lt (h : RL lo w rg g K) : rg < w.heap.size := by obtain ⟨A, n, c, h1, _⟩ := h; exact h1.lt
theorem RL.ext (h : RL lo w rg g K) (e : Ext w w') : RL lo w' rg g K := h.keep (e.block _ h.lt) fun _ _ q => (e.block _ (heap_lt q)).trans q
theorem at_idx {id : Int} : ∀ {K : List Sk} {k : Nat} {s : Sk}, (∀ j t, j < k → K[j]? = some t → (t.id : Int) ≠ id) → K[k]? = some s → (s.id : Int) = id → findS K id = some s
  | [], k, s, _, h, _ => by simp at h
  | x :: K, 0, s, _, h, e => by
    obtain rfl : x = s := by simpa using h
    unfold findS
    rw [List.find?_cons, decide_eq_true e]
  | x :: K, k + 1, s, hn, h, e => by
    have hx := hn 0 x (by omega) (by simp)
    have ih := at_idx (K := K) (k := k) (s := s) (id := id) (fun j t hj ht => hn (j + 1) t (by omega) (by simpa using ht)) (by simpa using h) e
    unfold findS at ih ⊢
    rw [List.find?_cons, decide_eq_false hx]
    exact ih
set_option maxHeartbeats 4000000 in
theorem rat23_calls (h : RL lo w rg g K) (hK : K.length ≤ 1000) {id : Int} :
    Calls Try.prog 61 #[.pointer (some ⟨rg, 0, none⟩), .int .i64 id] w fun e w' => (∃ r : Int, e = .returned (.int .i64 r) ∧ ((findS K id = none ∧ r = -1) ∨ ∃ (k : Nat) (s : Sk), r = (k : Int) ∧ K[k]? = some s ∧ findS K id = some s)) ∧ w' = w := by
  obtain ⟨A, n, c, hcb, cs, _⟩ := h
  have lm : K.length = n := by have := cs.1.1; rwa [List.length_map] at this
  have c1 : w.cell? ⟨rg, 1, none⟩ = some (.slice A n c) := hcb.cell rfl
  replace cs := Lib.hid cs
  clear hcb
  go_enter Try.func61, Try.ntmps61
  go_wp2_with fail
  go_loopw [5] (fun v wr => ∃ k : Nat, k ≤ n ∧ v = .int .i64 (k : Int) ∧ (∀ j t, j < k → K[j]? = some t → (t.id : Int) ≠ id) ∧ wr = w) (fun v _ => n - (intOf v).toNat)
  case atStart => exact ⟨0, Nat.zero_le _, rfl, fun j t h => absurd h (by omega), rfl⟩
  case round =>
    obtain ⟨k, hkn, rfl, hne, rfl⟩ := hrel
    by_cases hlt : k < n
    · have l1 : decide ((k : Int) < (n : Int)) = true := decide_eq_true (by omega)
      have l2 : (k : Int) < (n : Int) := by omega
      obtain ⟨b, off, rfl, hb, hc⟩ := cs.out.at hlt
      obtain ⟨s, hs⟩ : ∃ s, K[k]? = some s := ⟨_, List.getElem?_eq_getElem (by omega)⟩
      have e1 : (K.map Sk.R).getD k [] = s.R := by rw [List.getD_eq_getElem?_getD, List.getElem?_map, hs]; rfl
      rw [e1] at hc
      have c4 := hc 0 _ rfl
      rw [Nat.add_zero] at c4
      have k1 : IntKind.i64.wrap ((k : Int) + 1) = ((k + 1 : Nat) : Int) := (IntWalk.i64_in _ (by omega)).trans (by omega)
      by_cases he : (s.id : Int) = id
      · have F := Lib.hid (at_idx hne hs he)
        have he' : ((s.id : Int) == id) = true := beq_iff_eq.2 he
        replace hs := Lib.hid hs
        clear hc e1 he hne
        generalize (s.id : Int) = sid at *
        go_wp2_with fail
        go_ret
        exact ⟨⟨_, rfl, .inr ⟨k, s, rfl, hs.out, F.out⟩⟩, rfl⟩
      · have he' : ((s.id : Int) == id) = false := beq_eq_false_iff_ne.2 he
        have HN : Hid (∀ j t, j < k + 1 → K[j]? = some t → (t.id : Int) ≠ id) := fun j t hj ht => by
          by_cases q : j < k
          · exact hne j t q ht
          · obtain rfl : j = k := by omega
            rw [hs] at ht
            rw [← Option.some.inj ht]
            exact he
        clear hc e1 he hne hs
        generalize (s.id : Int) = sid at *
        go_wp2_with fail
        go_roundw
        case rel => exact ⟨k + 1, by omega, by go_num, HN.out, by first | trivial | rfl⟩
        case measure => simp [intOf]; omega
    · obtain rfl : k = n := by omega
      have l1 : decide ((k : Int) < (k : Int)) = false := decide_eq_false (by omega)
      have F : Hid (findS K id = none) := by
        unfold Hid findS
        exact List.find?_eq_none.2 fun s hs => by
          obtain ⟨j, hj, e⟩ := List.getElem_of_mem hs
          have := hne j s (by omega) (by rw [List.getElem?_eq_getElem hj, e])
          simpa using this
      clear hne
      go_wp2_with fail
      go_ret
      exact ⟨⟨_, rfl, .inl ⟨F.out, rfl⟩⟩, rfl⟩
end
end Go.Proofs.Yteaoacinhdjkeaa
end
