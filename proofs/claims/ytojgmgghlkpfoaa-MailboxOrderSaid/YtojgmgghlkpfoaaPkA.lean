import Derived.Test.YtojgmgghlkpfoaaAck
import Derived.Test.YtojgmgghlkpfoaaBase
import Derived.Deep.Grids
section
/-
  palfreylaw19.awake.
-/
namespace Go.Proofs.Ytojgmgghlkpfoaa
open Go.ChangeShapes Go.WideShapes Go.ChangeAt Go.RowKit Go.Deep
set_option maxRecDepth 100000

def aw19 : Ml := ⟨0, 0, 1, List.replicate 32 0, List.replicate 32 0, 0, 0, [], 0, 0, 0, 3, List.replicate 32 0, List.replicate 32 0⟩
theorem aw19_ok : aw19.ok := ⟨⟨rfl, rfl⟩, ⟨rfl, rfl⟩, Nat.zero_le _⟩
theorem aw19_put : pbI aw19 0 0 = 1 ∧ pbE aw19 0 = 0 ∧ pbM aw19 0 0 = 1 ∧ ∀ A c, pbL aw19 A c [] 0 = [⟨aw19.as 1, A, c⟩] := by
  have h : pbE aw19 0 = 0 := by decide +kernel
  refine ⟨?_, h, ?_, fun A c => ?_⟩
  · unfold pbI; rw [h]; rfl
  · unfold pbM; rw [h]; rfl
  · unfold pbL; rw [show ([] : List Wm).length = 0 from rfl, h]; rfl
theorem aw19_ev : Try.prog.built 35 [(1, .int .i64 1)] = some (⟨aw19, none, 0⟩ : Wm).ev.toArray := by kernel_rfl
theorem aw19_st : Try.prog.built 51 [(3, .int .i64 3)] = some aw19.stm.toArray := by kernel_rfl
set_option maxHeartbeats 8000000 in
theorem awake19_calls {w : World} : Calls Try.prog 22 #[] w fun e w' => e = .returned (.bool true) ∧ Ext w w' := by
  have NW := Lib.hid (new_calls (w := w))
  obtain ⟨g, hg⟩ : ∃ g, g = w.heap.size := ⟨_, rfl⟩
  rw [← hg] at NW
  have gl : w.heap.size ≤ g := Nat.le_of_eq hg.symm
  have PT : Hid (∀ W, w.heap.size ≤ W.heap.size → MB 83 64 g W g [] 0 → Calls Try.prog 24 #[.pointer (some ⟨g, 0, none⟩), .agg (⟨aw19, none, 0⟩ : Wm).ev.toArray, .agg aw19.stm.toArray] W fun e w' => e = .returned (.tuple #[.int .i64 1, .int .i64 0]) ∧ (∃ A' c', MB 83 64 g w' g [⟨aw19.as 1, A', c'⟩] 1) ∧ Tb w.heap.size tagP W w') := fun W hW h => by
    have := put_calls (B0 := w.heap.size) (x := ⟨aw19, none, 0⟩) h aw19_ok (Bs.nil W) (by omega) (by omega) (Nat.zero_le _) (by rw [hg]; exact hW) gl gl
    obtain ⟨p1, p2, p3, p4⟩ := aw19_put
    simp only [List.length_nil, p1, p2, p3, p4] at this
    exact this
  have LS : Hid (∀ W A c, MB 83 64 g W g [⟨aw19.as 1, A, c⟩] 1 → Calls Try.prog 29 #[.pointer (some ⟨g, 0, none⟩)] W fun e w' => ∃ q, e = .returned (.slice (some ⟨q, 0, none⟩) 1 1) ∧ W.heap.size ≤ q ∧ (∃ K, Cb w' q 64 K ∧ K[73]? = some (.int .i64 3)) ∧ Ext W w') := fun W A c h => by
    refine (list_calls h (by simp)).mono ?_
    rintro e w' ⟨q, L', h1, h2, h3, h4, h5, h6⟩
    refine ⟨q, h1, h2, ⟨_, h3, ?_⟩, h6⟩
    obtain ⟨y, l2, rfl, hy, h4⟩ := List.map_eq_cons_iff.1 h4
    obtain rfl := List.map_eq_nil_iff.1 h4
    have oy := (h5 y (List.mem_cons_self ..)).1
    rw [List.map_cons, List.map_nil, List.flatten_cons, List.flatten_nil, List.append_nil, y.c73 oy, hy]
    rfl
  have AK1 : Hid (∀ W A c, w.heap.size ≤ W.heap.size → MB 83 64 g W g [⟨aw19.as 1, A, c⟩] 1 → Calls Try.prog 26 #[.pointer (some ⟨g, 0, none⟩), .int .i64 1] W fun e w' => e = .returned (.int .i64 0) ∧ MB 83 64 g w' g [] 1 ∧ Tg w.heap.size tagP g W w') := fun W A c hW h => ack_calls (B0 := w.heap.size) h (by simp) (by rw [hg]; exact hW) gl
  have AK2 : Hid (∀ W, w.heap.size ≤ W.heap.size → MB 83 64 g W g [] 1 → Calls Try.prog 26 #[.pointer (some ⟨g, 0, none⟩), .int .i64 1] W fun e w' => e = .returned (.int .i64 5) ∧ MB 83 64 g w' g [] 1 ∧ Tg w.heap.size tagP g W w') := fun W hW h => ack_calls (B0 := w.heap.size) h (by simp) (by rw [hg]; exact hW) gl
  have AK3 : Hid (∀ W, w.heap.size ≤ W.heap.size → MB 83 64 g W g [] 1 → Calls Try.prog 26 #[.pointer (some ⟨g, 0, none⟩), .int .i64 2] W fun e w' => e = .returned (.int .i64 7) ∧ MB 83 64 g w' g [] 1 ∧ Tg w.heap.size tagP g W w') := fun W hW h => ack_calls (B0 := w.heap.size) h (by simp) (by rw [hg]; exact hW) gl
  have BE := Lib.hid aw19_ev
  have BS := Lib.hid aw19_st
  generalize (⟨aw19, none, 0⟩ : Wm).ev = EV at *
  generalize aw19.stm = ST at *
  generalize aw19.as 1 = d1 at *
  go_enter Try.func22, Try.ntmps22
  go_wp2_with fail
  refine NW.out.mono ?_
  rintro e w1 ⟨rfl, m1, x1⟩
  replace m1 := m1 g
  have PT1 := Lib.hid (PT.out w1 x1.size m1)
  replace x1 := Lib.hid x1
  clear NW PT m1 hg
  go_wp2_with (first
    | (refine wpList_build_as rfl _ _ rfl EV.toArray (by simp only [List.map_toArray, List.map_cons, List.map_nil]; exact BE.out) ?_; simp only [Act.put, List.setIfInBounds_toArray, List.set_cons_zero, List.set_cons_succ])
    | (refine wpList_build_as rfl _ _ rfl ST.toArray (by simp only [List.map_toArray, List.map_cons, List.map_nil]; exact BS.out) ?_; simp only [Act.put, List.setIfInBounds_toArray, List.set_cons_zero, List.set_cons_succ]))
  refine PT1.out.mono ?_
  rintro e w2 ⟨rfl, ⟨A2, c2, m2⟩, t2⟩
  have x2 : Hid (Ext w w2) := Tb.ext x1.out t2
  have LS2 := Lib.hid (LS.out w2 A2 c2 m2)
  replace m2 := Lib.hid m2
  clear PT1 x1 LS t2
  go_wp2_with fail
  refine LS2.out.mono ?_
  rintro e w3 ⟨q, rfl, hq, ⟨K, k3, h73⟩, e3⟩
  have m3 := m2.out.ext e3
  have x3 : Hid (Ext w w3) := x2.out.trans e3
  have AK3_ := Lib.hid (AK1.out w3 A2 c2 x3.out.size m3)
  have qg : some q ≠ some g := fun z => by have := m2.out.lt; have := Option.some.inj z; omega
  replace k3 := Lib.hid k3
  replace h73 := Lib.hid h73
  clear LS2 m2 x2 AK1 m3 e3
  go_wp2_with fail
  refine AK3_.out.mono ?_
  rintro e w4 ⟨rfl, m4, t4⟩
  have x4 : Hid (Ext w w4) := Tb.ext x3.out t4.1
  have c4 := (Cb.grown t4.2 k3.out qg).cell h73.out
  have AK4 := Lib.hid (AK2.out w4 x4.out.size m4)
  clear AK3_ x3 k3 t4 qg h73 AK2 m4
  go_wp2_with fail
  refine AK4.out.mono ?_
  rintro e w5 ⟨rfl, m5, t5⟩
  have x5 : Hid (Ext w w5) := Tb.ext x4.out t5.1
  have AK5 := Lib.hid (AK3.out w5 x5.out.size m5)
  clear AK4 x4 c4 t5 AK3 m5
  go_wp2_with fail
  refine AK5.out.mono ?_
  rintro e w6 ⟨rfl, m6, t6⟩
  have x6 : Hid (Ext w w6) := Tb.ext x5.out t6.1
  clear AK5 x5 t6 m6
  go_wp2_with fail
  go_ret
  exact ⟨rfl, x6.out⟩
end Go.Proofs.Ytojgmgghlkpfoaa
end

section
/-
  Rows of the numbers of those that are kept; lists whose numbers are apart.
-/
namespace Go.Proofs.Ytojgmgghlkpfoaa
open Go.ChangeShapes Go.WideShapes Go.ChangeAt Go.RowKit Go.Deep
set_option maxRecDepth 100000

def idsC (L : List Wm) : List (List Value) := L.map fun x => [Value.int .i64 x.d.id]
theorem infoI : (Try.prog.info? 3).map (fun i => (i.zero, i.size, i.bytes)) = some (some (.int .i64 0), 1, 8) := by kernel_rfl
theorem idsC_one (L : List Wm) : ∀ x ∈ idsC L, ∀ u ∈ x, u.oneCell' = true := fun x hx u hu => by
  obtain ⟨y, _, rfl⟩ := List.mem_map.1 hx
  rw [List.mem_singleton.1 hu]
  rfl
theorem idsC_app (L R : List Wm) : idsC (L ++ R) = idsC L ++ idsC R := List.map_append
theorem idsC_take (L : List Wm) (k : Nat) : (idsC L).take k = idsC (L.take k) := List.map_take.symm
theorem idsC_drop (L : List Wm) (k : Nat) : (idsC L).drop k = idsC (L.drop k) := List.map_drop.symm
theorem idsC_len (L : List Wm) : (idsC L).length = L.length := List.length_map _
/-- The number at place j. -/
theorem ids_at {w : World} {A : Option Addr} {n c j : Nat} {L : List Wm} (h : Cs w 1 A n c (idsC L)) (hj : j < n) (hl : j < L.length) : ∃ b off, A = some ⟨b, off, none⟩ ∧ b < w.heap.size ∧ w.cell? ⟨b, off + j, none⟩ = some (.int .i64 L[j].d.id) := by
  obtain ⟨b, off, hA, hb, hc⟩ := h.at hj
  refine ⟨b, off, hA, hb, ?_⟩
  have := hc 0 (.int .i64 L[j].d.id) (by rw [idsC, List.getD_eq_getElem?_getD, List.getElem?_map, List.getElem?_eq_getElem hl]; rfl)
  simpa using this
theorem OwnC.tb {B B' : Nat} {S : TypeId → Bool} {a b : World} {e : TypeId} {s : Nat} {A : Option Addr} {n c : Nat} {L : List (List Value)} (h : OwnC B' a e s A n c L) (t : Tb B S a b) (hS : S e = false) : OwnC B' b e s A n c L := h.keep fun _ _ hi _ => t.2.2.2.2 _ _ hi (.inr hS)

/-- The numbers are apart, and below next. -/
def Gd (L : List Wm) (next : Int) : Prop := (∀ x ∈ L, 1 ≤ x.d.id ∧ x.d.id < next) ∧ L.Pairwise fun x y => x.d.id ≠ y.d.id
theorem Gd.nil : Gd [] 1 := ⟨fun x hx => (by cases hx), List.Pairwise.nil⟩
theorem Gd.put {L : List Wm} {next : Int} (h : Gd L next) (h1 : 1 ≤ next) (d : Ml) (A : Option Addr) (c : Nat) : Gd (L ++ [⟨d.as next, A, c⟩]) (next + 1) := by
  refine ⟨fun x hx => ?_, ?_⟩
  · rcases List.mem_append.1 hx with q | q
    · have := h.1 x q
      omega
    · rw [List.mem_singleton.1 q]
      show 1 ≤ next ∧ next < next + 1
      omega
  · refine List.pairwise_append.2 ⟨h.2, List.pairwise_singleton _ _, fun a ha b hb => ?_⟩
    rw [List.mem_singleton.1 hb]
    have := (h.1 a ha).2
    show a.d.id ≠ next
    omega
theorem Gd.drop {L : List Wm} {next : Int} (h : Gd L next) {k : Nat} (hk : k < L.length) : (dropI L[k].d.id L = L.take k ++ L.drop (k + 1) ∧ hasI L[k].d.id L = true) ∧ 1 ≤ L[k].d.id ∧ L[k].d.id < next ∧ Gd (L.take k ++ L.drop (k + 1)) next := by
  have dk : L = L.take k ++ L[k] :: L.drop (k + 1) := by
    rw [← List.drop_eq_getElem_cons hk, List.take_append_drop]
  have hp := h.2
  have h0 := h.1 _ (List.getElem_mem hk)
  generalize L[k] = y at *
  rw [dk] at hp
  have hne : ∀ x ∈ L.take k, x.d.id ≠ y.d.id := fun x hx => (List.pairwise_append.1 hp).2.2 x hx y (List.mem_cons_self ..)
  have hd := dropI_at (P := L.take k) (x := y) (R := L.drop (k + 1)) hne rfl
  rw [← dk] at hd
  refine ⟨hd, h0.1, h0.2, fun x hx => h.1 x ?_, ?_⟩
  · rcases List.mem_append.1 hx with q | q
    · exact List.mem_of_mem_take q
    · exact List.mem_of_mem_drop q
  · exact hp.sublist (List.Sublist.append (List.Sublist.refl _) (List.sublist_cons_self _ _))
theorem akE_in {L : List Wm} {last id : Int} (h1 : 1 ≤ id) (h2 : id ≤ last) (h : hasI id L = true) : akE L last id = 0 := by
  unfold akE
  rw [if_neg (by omega), h]
  rfl
theorem akL_in {L : List Wm} {last id : Int} (h1 : 1 ≤ id) (h2 : id ≤ last) : akL L last id = dropI id L := by
  unfold akL
  rw [if_neg (by omega)]
end Go.Proofs.Ytojgmgghlkpfoaa
end

section
/-
  A slice that reads as bools. No conditions.
-/
namespace Go.Proofs.Ytojgmgghlkpfoaa
open Go.ChangeShapes Go.WideShapes Go.ChangeAt Go.RowKit Go.Deep

/-- The slice '.slice A n c' reads as the bools f 0, f 1 .. -/
def Bls (w : World) (A : Option Addr) (n c : Nat) (f : Nat → Bool) : Prop :=
  n ≤ c ∧ c ≤ maxLen ∧ (0 < n → ∃ b off, A = some ⟨b, off, none⟩ ∧ b < w.heap.size ∧ ∀ j, j < n → w.cell? ⟨b, off + j, none⟩ = some (.bool (f j)))
theorem Bls.ext {w w' : World} {A : Option Addr} {n c : Nat} {f : Nat → Bool} (h : Bls w A n c f) (he : Ext w w') : Bls w' A n c f :=
  ⟨h.1, h.2.1, fun hn => by
    obtain ⟨b, off, e, hb, hc⟩ := h.2.2 hn
    exact ⟨b, off, e, Nat.lt_of_lt_of_le hb he.size, fun j hj => (he.cell hb).trans (hc j hj)⟩⟩
section
variable {H : Type} {enc : TypeId × Value → H} {W : World} {P : Program}
theorem bools_of_trod {t e : TypeId} {a : Option Addr} {len cap : Nat} {d : DataW H} {p : List MemPlace} (ht : P.underlying t = some (.slice e)) (he : P.underlying e = some .bool) (hc : P.cellsOf e = 1)
    (h : DataW.Trod enc P W 0 (fun _ => true) true t (.slice a len cap) d p) : ∃ f, Bls W a len cap f := by
  obtain ⟨fuel, hf⟩ := h
  rcases open_bools ht he hc hf with ⟨hcs, _⟩ | ⟨x, l, c, B, hcs, _, hl, hm, _, hcell⟩
  · simp [Value.cells] at hcs
    obtain ⟨rfl, rfl, rfl⟩ := hcs
    exact ⟨fun _ => false, Nat.le_refl _, Nat.zero_le _, fun h => absurd h (by omega)⟩
  · simp [Value.cells] at hcs
    obtain ⟨rfl, rfl, rfl⟩ := hcs
    refine ⟨B, hl, hm, fun h0 => ?_⟩
    obtain ⟨b, off, spot⟩ := x
    have g0 := hcell 0 (by omega)
    have hspot : spot = none := by simpa [Addr.add] using World.cell?_spot g0
    subst hspot
    have ad : ∀ j, (⟨b, off, none⟩ : Addr).add j = ⟨b, off + j, none⟩ := fun j => by unfold Addr.add; split <;> simp_all
    refine ⟨b, off, rfl, ?_, fun j hj => ?_⟩
    · rw [ad] at g0
      exact World.block_lt_of_cell? W _ g0
    · have := hcell j (by omega)
      rwa [ad] at this
end
end Go.Proofs.Ytojgmgghlkpfoaa
end
