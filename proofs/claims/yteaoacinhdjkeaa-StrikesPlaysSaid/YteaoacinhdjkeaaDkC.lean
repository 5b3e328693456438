import Derived.Test.YteaoacinhdjkeaaPkK
import Derived.Test.YteaoacinhdjkeaaPkM
/-
  disk.Crash.
-/
namespace Go.Proofs.Yteaoacinhdjkeaa
open Go.ChangeShapes Go.WideShapes Go.ChangeAt Go.RowKit Go.Deep Go.Maps
set_option maxRecDepth 100000

/-- The sectors behind a crash, when the first k of those that were not sure are settled. -/
def Ds.crS (d : Ds) (kept : Nat) (P : List Nat) : Nat → List (List UInt8)
  | 0 => d.S
  | k + 1 => if kept / 2 ^ k % 2 = 1 then (d.crS kept P k).set (P.getD k 0) ((d.N (P.getD k 0)).getD []) else d.crS kept P k
def Ds.crash (d : Ds) (kept : Nat) : Ds := ⟨d.crS kept (d.pend d.S.length) (d.pend d.S.length).length, fun _ => none, false, 0, false⟩
theorem crS_len {d : Ds} {kept : Nat} {P : List Nat} : ∀ k, (d.crS kept P k).length = d.S.length
  | 0 => rfl
  | k + 1 => by
    rw [Ds.crS]
    split
    · rw [List.length_set, crS_len k]
    · exact crS_len k
theorem pend_mem {d : Ds} {m i : Nat} : i ∈ d.pend m ↔ i < m ∧ (d.N i).isSome = true := by
  unfold Ds.pend
  rw [List.mem_filter, List.mem_range]
theorem pend_getD {d : Ds} {m k : Nat} (h : k < (d.pend m).length) : (d.pend m).getD k 0 < m ∧ (d.N ((d.pend m).getD k 0)).isSome = true := by
  rw [List.getD_eq_getElem?_getD, List.getElem?_eq_getElem h, Option.getD_some]
  exact pend_mem.1 (List.getElem_mem h)
theorem crS_64 {d : Ds} (ok : d.ok) {kept m : Nat} : ∀ k, k ≤ (d.pend m).length → ∀ s ∈ d.crS kept (d.pend m) k, s.length = 64
  | 0, _, s, hs => ok.sl s hs
  | k + 1, hk, s, hs => by
    rw [Ds.crS] at hs
    split at hs
    · rcases List.mem_or_eq_of_mem_set hs with q | q
      · exact crS_64 ok k (by omega) s q
      · obtain ⟨h1, h2⟩ := pend_getD (d := d) (m := m) (k := k) (by omega)
        obtain ⟨y, hy⟩ := Option.isSome_iff_exists.1 h2
        rw [q, hy]
        exact (ok.nl _ _ hy).1
    · exact crS_64 ok k (by omega) s hs
theorem crash_ok {d : Ds} (ok : d.ok) (kept : Nat) : (d.crash kept).ok := ⟨by show 1 ≤ (d.crS _ _ _).length; rw [crS_len]; exact ok.low, by show (d.crS _ _ _).length ≤ 64; rw [crS_len]; exact ok.most, crS_64 ok _ (Nat.le_refl _), fun i s h => (by cases h), by simp [Ds.crash]⟩
theorem crash_S (d : Ds) (kept : Nat) : (d.crash kept).S.length = d.S.length := crS_len _
/-- A sector that is settled is the one or the other. -/
theorem crS_at {d : Ds} {kept m : Nat} (i : Nat) : ∀ k, k ≤ (d.pend m).length → (d.crS kept (d.pend m) k).getD i [] = d.S.getD i [] ∨ ∃ s, d.N i = some s ∧ (d.crS kept (d.pend m) k).getD i [] = s
  | 0, _ => .inl rfl
  | k + 1, hk => by
    rw [Ds.crS]
    split
    · by_cases q : (d.pend m).getD k 0 = i
      · obtain ⟨h1, h2⟩ := pend_getD (d := d) (m := m) (k := k) (by omega)
        rw [q] at h2 ⊢
        obtain ⟨y, hy⟩ := Option.isSome_iff_exists.1 h2
        by_cases hl : i < (d.crS kept (d.pend m) k).length
        · refine .inr ⟨y, hy, ?_⟩
          rw [List.getD_eq_getElem?_getD, List.getElem?_set_self hl, hy]
          rfl
        · left
          rw [List.getD_eq_getElem?_getD, List.getElem?_eq_none (by rw [List.length_set]; omega), List.getD_eq_getElem?_getD, List.getElem?_eq_none (by rw [crS_len] at hl; omega)]
      · rw [List.getD_eq_getElem?_getD, List.getElem?_set_ne q, ← List.getD_eq_getElem?_getD]
        exact crS_at i k (by omega)
    · exact crS_at i k (by omega)
theorem crS_none {d : Ds} {m : Nat} : ∀ k, d.crS 0 (d.pend m) k = d.S
  | 0 => rfl
  | k + 1 => by rw [Ds.crS, Nat.zero_div, if_neg (by decide)]; exact crS_none k
theorem crS_all {d : Ds} {kept m : Nat} (hk : ∀ j, j < 64 → kept / 2 ^ j % 2 = 1) : ∀ k, k ≤ (d.pend m).length → k ≤ 64 → ∀ i, i ∈ (d.pend m).take k → i < d.S.length → (d.crS kept (d.pend m) k).getD i [] = (d.N i).getD []
  | 0, _, _, i, hi, _ => by simp at hi
  | k + 1, h1, h2, i, hi, hl => by
    rw [Ds.crS, if_pos (hk k (by omega))]
    by_cases q : (d.pend m).getD k 0 = i
    · rw [q, List.getD_eq_getElem?_getD, List.getElem?_set_self (by rw [crS_len]; exact hl)]
      rfl
    · rw [List.getD_eq_getElem?_getD, List.getElem?_set_ne q, ← List.getD_eq_getElem?_getD]
      refine crS_all hk k (by omega) (by omega) i ?_ hl
      rw [List.take_succ_eq_append_getElem (by omega)] at hi
      rcases List.mem_append.1 hi with z | z
      · exact z
      · refine absurd ?_ q
        rw [List.getD_eq_getElem?_getD, List.getElem?_eq_getElem (by omega), Option.getD_some]
        exact (List.mem_singleton.1 z).symm
/-- A disk of which k of those that were not sure are settled. -/
def Ds.part (d : Ds) (kept k : Nat) : Ds := ⟨d.crS kept (d.pend d.S.length) k, d.N, d.hf, d.f, d.dd⟩
theorem part_ok {d : Ds} (ok : d.ok) (kept : Nat) {k : Nat} (hk : k ≤ (d.pend d.S.length).length) : (d.part kept k).ok := ⟨by show 1 ≤ (d.crS _ _ _).length; rw [crS_len]; exact ok.low, by show (d.crS _ _ _).length ≤ 64; rw [crS_len]; exact ok.most, crS_64 ok _ hk, fun i s h => by show _ ∧ i < (d.crS _ _ _).length; rw [crS_len]; exact ok.nl i s h, ok.fl⟩
theorem DK.putS {w : World} {g r b : Nat} {d : Ds} (h : DK w g r b d) {i : Nat} (hi : i < d.S.length) {xs : List UInt8} (hx : xs.length = 64) : DK (w.setCells r (i * 64) (cellsOf xs)) g r b { d with S := d.S.set i xs } ∧ w.there r (i * 64) 64 := by
  have LF : ((d.S.map cellsOf).flatten).length = d.S.length * 64 := by rw [flatten_len64 (s := 64) (fun x hx => by obtain ⟨y, hy, rfl⟩ := List.mem_map.1 hx; rw [cellsOf_len]; exact h.ok.sl y hy), List.length_map]
  have g1 := grown_setCells (w := w) (g := r) (o := i * 64) (vs := cellsOf xs)
  have hl : (d.S.set i xs).length = d.S.length := List.length_set ..
  refine ⟨⟨?_, ?_, ?_, ?_⟩, there_of_row h.row (by omega)⟩
  · have e : ({ d with S := d.S.set i xs } : Ds).cells r b = d.cells r b := by simp [Ds.cells]
    rw [e]
    exact (g1.block _ h.cb.lt (fun q => h.gr (Option.some.inj q))).trans h.cb
  · have q := heap_setCells_row (cellsOf xs) (i * 64) w _ h.row (by rw [cellsOf_len]; omega)
    rw [splice_flat (s := 64) (fun x hx => by obtain ⟨y, hy, rfl⟩ := List.mem_map.1 hx; rw [cellsOf_len]; exact h.ok.sl y hy) (by rw [List.length_map]; omega) (by rw [cellsOf_len, hx])] at q
    show Cb _ _ _ ((d.S.set i xs).map cellsOf).flatten
    rw [List.map_set]
    exact q
  · have e : ({ d with S := d.S.set i xs } : Ds).ent = d.ent := by unfold Ds.ent; rw [hl]
    rw [e]
    exact h.mp.stay (g1.block _ h.mp.lt (fun q => h.rb (Option.some.inj q).symm))
  · exact ⟨by rw [hl]; exact h.ok.low, by rw [hl]; exact h.ok.most, fun s hs => by
      rcases List.mem_or_eq_of_mem_set hs with q | q
      · exact h.ok.sl s q
      · rw [q]; exact hx, fun j s q => by show _ ∧ j < (d.S.set i xs).length; rw [hl]; exact h.ok.nl j s q, h.ok.fl⟩
theorem DK.look1 {w : World} {g r b : Nat} {d : Ds} (h : DK w g r b d) {n : Nat} {s : List UInt8} (hn : d.N n = some s) :
    (Instr.lookup 84 (.map (some b)) (.int .i64 (n : Int)) false).run Try.prog w = .ok (.agg (cellsOf s).toArray) w := by
  have hl := (h.ok.nl _ _ hn).2
  have hm := h.ok.most
  rcases h.mp.look int_law Try.underlying84 (sector_alloc w) (int_key Try.underlying3 (i := (n : Int)) (by omega)) with ⟨v, h1, _, h2⟩ | ⟨h1, _, _⟩
  · obtain ⟨j, u, hj, hu, he⟩ := entN_mem.1 h1
    injection he with e1 e2
    injection e1 with _ e1
    obtain rfl : n = j := by omega
    obtain ⟨s', hs, rfl⟩ := Option.map_eq_some_iff.1 hu
    rw [hn] at hs
    obtain rfl := Option.some.inj hs
    rw [h2, e2]
  · exact absurd rfl (h1 _ (entN_mem.2 ⟨n, _, hl, by rw [hn]; rfl, rfl⟩))
theorem iC_at {w : World} {A : Option Addr} {n c : Nat} {P : List Nat} (h : Cs w 1 A n c (iC P)) {k : Nat} (hk : k < n) : ∃ b off, A = some ⟨b, off, none⟩ ∧ b < w.heap.size ∧ w.cell? ⟨b, off + k, none⟩ = some (.int .i64 (P.getD k 0 : Nat)) := by
  obtain ⟨b, off, hA, hb, hc⟩ := h.at hk
  have hl : k < P.length := by have := h.1.1; unfold iC at this; rw [List.length_map] at this; omega
  refine ⟨b, off, hA, hb, ?_⟩
  have := hc 0 (.int .i64 ((P.getD k 0 : Nat) : Int)) (by rw [List.getD_eq_getElem?_getD, iC, List.getElem?_map, List.getElem?_eq_getElem hl, List.getD_eq_getElem?_getD, List.getElem?_eq_getElem hl]; rfl)
  rwa [Nat.mul_one, Nat.add_zero] at this
set_option maxHeartbeats 4000000 in
theorem dcrash_calls {w : World} {g r mb : Nat} {d : Ds} (h : DK w g r mb d) {kept : Nat} (hk : kept < 18446744073709551616) :
    Calls Try.prog 20 #[.pointer (some ⟨g, 0, none⟩), .int .u64 (kept : Int)] w fun e w' => e = .returned (.tuple #[]) ∧ ∃ mb', DK w' g r mb' (d.crash kept) ∧ w.heap.size ≤ mb' ∧ Two g r w w' := by
  have PN := Lib.hid (dpending_calls h)
  have gr := h.gr
  have gb := h.gb
  have rb := h.rb
  have gl := h.cb.lt
  have rl := h.row.lt
  have bl := h.mp.lt
  have ok := Lib.hid h.ok
  have hm64 := h.ok.most
  have hmm := @run_makeMap Try.prog
  have E0 : Hid (∀ s, Ext w s → DK s g r mb (d.part kept 0)) := fun s e => h.ext e
  have pl := pend_len d d.S.length
  clear h
  obtain ⟨P, hP⟩ : ∃ P, P = d.pend d.S.length := ⟨_, rfl⟩
  obtain ⟨m, hm⟩ : ∃ m, m = P.length := ⟨_, rfl⟩
  rw [← hP, ← hm] at PN
  rw [← hP, ← hm] at pl
  have PM : Hid (∀ k, k < m → P.getD k 0 < d.S.length ∧ ∃ s, d.N (P.getD k 0) = some s ∧ s.length = 64) := fun k hk => by
    rw [hP] at hm ⊢
    obtain ⟨h1, h2⟩ := pend_getD (d := d) (m := d.S.length) (k := k) (by omega)
    obtain ⟨y, hy⟩ := Option.isSome_iff_exists.1 h2
    exact ⟨h1, y, hy, (ok.out.nl _ _ hy).1⟩
  have PT : Hid (∀ k, k < m → d.part kept (k + 1) = if kept / 2 ^ k % 2 = 1 then { d.part kept k with S := (d.part kept k).S.set (P.getD k 0) ((d.N (P.getD k 0)).getD []) } else d.part kept k) := fun k _ => by
    unfold Ds.part
    rw [← hP, Ds.crS]
    split <;> rfl
  have FI : Hid (({ ({ d.part kept m with N := fun _ => none } : Ds) with dd := false } : Ds).fuse (-1) = d.crash kept) := by unfold Hid; rw [hm, hP]; rfl
  have PL : Hid (∀ k, (d.part kept k).S.length = d.S.length) := fun k => crS_len _
  have PO : Hid (∀ k, k ≤ m → (d.part kept k).ok) := fun k hk => part_ok ok.out kept (by rw [← hP, ← hm]; exact hk)
  replace hP := Lib.hid (fun _ : Unit => hP)
  replace hm := Lib.hid (fun _ : Unit => hm)
  go_enter Try.func20, Try.ntmps20
  go_wp2_with fail
  refine PN.out.mono ?_
  rintro e w1 ⟨A, c, rfl, ow, x1⟩
  have K1 := Lib.hid (E0.out w1 x1)
  have T1 : Hid (Two g r w w1) := Two.of_ext x1
  replace ow := Lib.hid ow
  clear PN E0 x1
  go_wp2_with fail
  go_loopw [9] (fun v wr => ∃ k : Nat, k ≤ m ∧ v = .int .i64 (k : Int) ∧ DK wr g r mb (d.part kept k) ∧ OwnC w.heap.size wr 3 1 A m c (iC P) ∧ Two g r w wr) (fun v _ => m - (intOf v).toNat)
  case atStart => exact ⟨0, Nat.zero_le _, rfl, K1.out, ow.out, T1.out⟩
  case round =>
    clear K1 T1 ow
    obtain ⟨k, hkm, rfl, dk, ow, tr⟩ := hrel
    by_cases hlt : k < m
    · obtain ⟨b, off, rfl, hb, hc⟩ := iC_at ow.cs hlt
      have k64 : k < 64 := by omega
      obtain ⟨p1, s, hs, ls⟩ := PM.out k hlt
      have PK := PT.out k hlt
      rw [hs] at PK
      rw [show ((some s).getD [] : List UInt8) = s from rfl] at PK
      obtain ⟨n, hn⟩ : ∃ n, n = P.getD k 0 := ⟨_, rfl⟩
      rw [← hn] at hc hs p1 PK
      replace hn := Lib.hid (fun _ : Unit => hn)
      obtain ⟨y, hy⟩ : ∃ y, y = kept / 2 ^ k := ⟨_, rfl⟩
      have y64 : y < 18446744073709551616 := by rw [hy]; exact Nat.lt_of_le_of_lt (Nat.div_le_self _ _) hk
      have s1 : Op.shift .shr .u64 (kept : Int) .i64 (k : Int) = pure (.int .u64 (y : Int)) := by
        have := shift_shr .u64 .i64 (kept : Int) (k : Int) (by omega) (by show (k : Int) ≤ 64; omega)
        rw [this, hy]
        simp
      have s3 : (kept : Int) / 2 ^ k = (y : Int) := by rw [hy]; simp
      rw [← hy] at PK
      obtain ⟨t, ht⟩ : ∃ t, t = y % 2 := ⟨_, rfl⟩
      have s2 : bits .and .u64 (y : Int) 1 = (t : Int) := by
        have := u64_and_nat y 1 y64 (by omega)
        rw [show ((1 : Nat) : Int) = 1 from rfl] at this
        rw [this, ht, Nat.and_one_is_mod]
      rw [← ht] at PK
      have t01 : t = 0 ∨ t = 1 := by omega
      have hk1 : IntKind.i64.wrap ((k : Int) + 1) = (k : Int) + 1 := IntWalk.i64_in _ (by omega)
      clear hy ht
      rcases t01 with h | h
      · have t5 : ((t : Int) == 1) = false := by rw [h]; rfl
        rw [if_neg (by omega)] at PK
        rw [← PK] at dk
        replace dk := Lib.hid dk
        replace ow := Lib.hid ow
        replace tr := Lib.hid tr
        clear h PK hs
        go_wp2_with fail
        go_round
        case rel => exact ⟨k + 1, by omega, by go_num, dk.out, ow.out, tr.out⟩
        case measure => simp [intOf]; omega
      · have t5 : ((t : Int) == 1) = true := by rw [h]; rfl
        rw [if_pos h] at PK
        clear h
        have L_S := PL.out k
        obtain ⟨D, hD⟩ : ∃ D, D = d.part kept k := ⟨_, rfl⟩
        have hDN : D.N n = some s := by rw [hD]; exact hs
        rw [← hD] at dk PK L_S
        clear hD hs
        have dkd : DK wr.drew g r mb D := dk.ext (Ext.refl wr).drew
        obtain ⟨q1, q2⟩ := dkd.putS (i := n) (by omega) ls
        have S_s : (cellsOf s).toArray.size = 64 := by simp [cellsOf_len, ls]
        have O_s := one_cells (one_mem s)
        have c0 : wr.cell? ⟨g, 0, none⟩ = some (.slice (some ⟨r, 0, none⟩) d.S.length d.S.length) := by rw [← L_S]; exact dk.cb.cell rfl
        have c1 : wr.cell? ⟨g, 1, none⟩ = some (.map (some mb)) := dk.cb.cell rfl
        have gl1 := dk.cb.lt
        have F4 : Hid (∀ s' : World, wr.drew.grownBy s' (some r) → (s'.cell? ⟨g, 0, none⟩ = some (.slice (some ⟨r, 0, none⟩) d.S.length d.S.length) ∧ s'.cell? ⟨g, 1, none⟩ = some (.map (some mb))) ∧ (Instr.lookup 84 (.map (some mb)) (.int .i64 (n : Int)) false).run Try.prog s' = .ok (.agg (cellsOf s).toArray) s') := fun s' e => by
          have hg := cell_of_heap21 (e.block g gl1 (fun q => gr (Option.some.inj q)))
          refine ⟨⟨(hg 0).trans c0, (hg 1).trans c1⟩, ?_⟩
          have hmp := dkd.mp.kept e (fun q => rb (Option.some.inj q).symm)
          have hl := (dk.ok.nl _ _ hDN).2
          rcases hmp.look int_law Try.underlying84 (sector_alloc s') (int_key Try.underlying3 (i := (n : Int)) (by omega)) with ⟨v, h1, _, h2⟩ | ⟨h1, _, _⟩
          · obtain ⟨j, u, hj, hu, he⟩ := entN_mem.1 h1
            injection he with e1 e2
            injection e1 with _ e1
            obtain rfl : n = j := by omega
            obtain ⟨s', hs, rfl⟩ := Option.map_eq_some_iff.1 hu
            rw [hDN] at hs
            obtain rfl := Option.some.inj hs
            rw [h2, e2]
          · exact absurd rfl (h1 _ (entN_mem.2 ⟨n, _, hl, by rw [hDN]; rfl, rfl⟩))
        have ow2 : Hid (∀ s', wr.drew.grownBy s' (some r) → OwnC w.heap.size s' 3 1 (some ⟨b, off, none⟩) m c (iC P)) := fun s' e => OwnC.kept (w := wr.drew) (ow.ext (Ext.refl _).drew) e (by
          rcases hv : Value.ownBlock (.slice (some ⟨b, off, none⟩) m c) with _ | z
          · exact .inl rfl
          · refine .inr fun q => ?_
            have := ow.ge z hv
            have := Option.some.inj q
            omega)
        have tr2 : Hid (∀ s', wr.drew.grownBy s' (some r) → Two g r w s') := fun s' e => tr.trans (Two.trans (Two.of_ext (Ext.refl wr).drew) ⟨e.os, e.tape, e.output, e.size, fun i hi _ h2 => e.block i hi (fun q => h2 (Option.some.inj q))⟩)
        have Q1 : Hid (DK (wr.drew.setCells r (n * 64) (cellsOf s)) g r mb (d.part kept (k + 1))) := by unfold Hid; rw [PK]; exact q1
        replace q2 := Lib.hid q2
        have u1 : (0 : Int) ≤ (n : Int) := by omega
        have u2 : (n : Int) < (d.S.length : Int) := by omega
        clear dk ow tr dkd c0 c1 PK q1
        go_upto_region 4 with fail
        clear hc
        refine qgW r [0, 1, 2, 3, 4, 5, 6, 7, 8, 9, 10, 11, 12] [12] ?_
        generalize wr.drew = W at *
        repeat ((first | refine qR _ (fun w' e => (F4.out w' e).1) ?_ | refine qS ?_); go_frame)
        refine qV rfl (fun w' => (Instr.lookup 84 (.map (some mb)) (.int .i64 (n : Int)) false).run Try.prog w' = .ok (.agg (cellsOf s).toArray) w') (fun w' e => (F4.out w' e).2) (.agg (cellsOf s).toArray) (fun w' hF => exec_lookup rfl rfl rfl hF) ?_
        go_frame
        repeat ((first | refine qR _ (fun w' e => (F4.out w' e).1) ?_ | refine qS ?_); go_frame)
        refine qD fun K hK => ?_
        refine wp_store_mid 45 _ _ rfl r (n * 64) (cellsOf s).toArray rfl rfl (by rw [S_s]; exact q2.out) (by rw [S_s]; rfl) O_s ?_
        refine hK.out _ _ grown_setCells ?_
        clear hK K
        try go_frame
        repeat ((first | refine qR0 ?_ | refine qS ?_); go_frame)
        refine seq_done ?_
        have f2 := Lib.hid (ow2.out _ (grown_setCells (o := n * 64) (vs := cellsOf s)))
        have f3 := Lib.hid (tr2.out _ (grown_setCells (o := n * 64) (vs := cellsOf s)))
        clear F4 ow2 tr2 q2
        go_wp2_with fail
        go_round
        case rel => exact ⟨k + 1, by omega, by go_num, Q1.out, f2.out, f3.out⟩
        case measure => simp [intOf]; omega
    · obtain rfl : k = m := by omega
      have wrg := dk.cb.lt
      have x := (Ext.refl wr).alloc (.map #[] 0)
      have kx := dk.cb.ext x
      have kf := kx.frozen 1
      have kc : (wr.alloc (.map #[] 0)).cell? ⟨g, 1, none⟩ = some (.map (some mb)) := kx.cell rfl
      have D2 : Hid (DK ((wr.alloc (.map #[] 0)).setCell ⟨g, 1, none⟩ (.map (some wr.heap.size))) g r wr.heap.size { d.part kept k with N := fun _ => none } ∧ Two g r w ((wr.alloc (.map #[] 0)).setCell ⟨g, 1, none⟩ (.map (some wr.heap.size)))) := by
        have k1 := (dk.cb.ext x).setCell (o := 1) (v := .map (some wr.heap.size))
        have e1 : ((d.part kept k).cells r mb).set 1 (.map (some wr.heap.size)) = ({ d.part kept k with N := fun _ => none } : Ds).cells r wr.heap.size := rfl
        rw [e1] at k1
        have m0 := Mp.made wr Try.prog 3
        have en : ({ d.part kept k with N := fun _ => none } : Ds).ent = [] := by
          unfold Ds.ent entN
          rw [List.filterMap_eq_nil_iff]
          intro i _
          rfl
        have o := dk.ok
        refine ⟨⟨k1, (Below.heap_setCell _ _ _ _ (fun q => gr q.symm)).trans (dk.row.ext x), ?_, ⟨o.low, o.most, o.sl, (fun i s h => by cases h), o.fl⟩⟩, tr.trans ((Two.of_ext x).trans ⟨rfl, rfl, rfl, by simp [World.setCell], fun i _ h1 _ => Below.heap_setCell _ _ _ _ h1⟩)⟩
        rw [en]
        exact m0.stay (Below.heap_setCell _ _ _ _ (Nat.ne_of_gt wrg))
      have wm : w.heap.size ≤ wr.heap.size := tr.2.2.2.1
      rw [World.setCell_alloc_past _ _ _ _ wrg] at D2
      clear dk ow tr kx x PT PM PL PO
      go_upto_region 7 with fail
      refine wp_gen (fun W => DK W g r wr.heap.size { d.part kept k with N := fun _ => none } ∧ Two g r w W) D2.out ?_
      generalize wr.heap.size = mb2 at *
      clear D2 kc kf wrg wr
      rintro w3 ⟨d3, t3⟩
      have f4 := d3.cb.frozen 4
      have c4 : w3.cell? ⟨g, 4, none⟩ = some (.bool d.dd) := d3.cb.cell rfl
      have D4 : Hid (DK (w3.setCell ⟨g, 4, none⟩ (.bool false)) g r mb2 { ({ d.part kept k with N := fun _ => none } : Ds) with dd := false } ∧ Two g r w (w3.setCell ⟨g, 4, none⟩ (.bool false))) :=
        ⟨d3.cell rfl rfl rfl ⟨d3.ok.low, d3.ok.most, d3.ok.sl, d3.ok.nl, d3.ok.fl⟩, t3.trans ⟨rfl, rfl, rfl, by simp [World.setCell], fun i _ h1 _ => Below.heap_setCell _ _ _ _ h1⟩⟩
      clear d3 t3
      go_upto_region 8 with fail
      refine wp_gen (fun W => DK W g r mb2 { ({ d.part kept k with N := fun _ => none } : Ds) with dd := false } ∧ Two g r w W) D4.out ?_
      clear D4 f4 c4 w3
      rintro w4 ⟨d4, t4⟩
      have FU := Lib.hid (dfuse_calls d4 (n := -1) (by omega))
      rw [FI.out] at FU
      replace t4 := Lib.hid t4
      clear d4 FI
      go_wp2_with fail
      refine FU.out.mono ?_
      rintro e w5 ⟨rfl, d5, g5⟩
      have F : Hid (DK w5 g r mb2 (d.crash kept) ∧ Two g r w w5) := ⟨d5, t4.out.trans ⟨g5.os, g5.tape, g5.output, g5.size, fun i hi h1 _ => g5.block i hi (fun q => h1 (Option.some.inj q))⟩⟩
      clear FU d5 g5 t4
      go_wp2_with fail
      go_end0
      exact ⟨rfl, mb2, F.out.1, wm, F.out.2⟩
end Go.Proofs.Yteaoacinhdjkeaa
