import Derived.Test.YtojgmgghlkpfoaaAck
import Derived.Test.YtojgmgghlkpfoaaBase
section
/-
  palfreylaw19.awake.
-/
namespace Go.Proofs.Ytojgmgghlkpfoaa
open Go.ChangeShapes Go.WideShapes Go.ChangeAt Go.RowKit Go.Deep
set_option maxRecDepth 100000

def aw19 : Ml := ⟨0, 0, 1, List.replicate 32 0, List.replicate 32 0, 0, 0, [], 0, 0, 0, 3, List.replicate 32 0, List.replicate 32 0⟩
theorem aw19_ok : aw19.ok := ⟨⟨rfl, rfl⟩, ⟨rfl, rfl⟩, Nat.zero_le _⟩
theorem aw19_put : pbI aw19 0 0 = 1 ∧ pbE aw19 0 = 0 ∧ pbM aw19 0 0 = 1 ∧ ∀ A c, pbL aw19 A c [] 0 = [⟨aw19.as 1, A, c⟩] := by
  have h : pbE aw19 0 = 0 := by decide +kernel
  refine ⟨?_, h, ?_, fun A c => ?_⟩
  · unfold pbI; rw [h]; rfl
  · unfold pbM; rw [h]; rfl
  · unfold pbL; rw [show ([] : List Wm).length = 0 from rfl, h]; rfl
theorem aw19_ev : Try.prog.built 35 [(1, .int .i64 1)] = some (⟨aw19, none, 0⟩ : Wm).ev.toArray := by kernel_rfl
theorem aw19_st : Try.prog.built 51 [(3, .int .i64 3)] = some aw19.stm.toArray := by kernel_rfl
set_option maxHeartbeats 8000000 in
theorem awake19_calls {w : World} : Calls Try.prog 22 #[] w fun e w' => e = .returned (.bool true) ∧ Ext w w' := by
  have NW := Lib.hid (new_calls (w := w))
  obtain ⟨g, hg⟩ : ∃ g, g = w.heap.size := ⟨_, rfl⟩
  rw [← hg] at NW
  have gl : w.heap.size ≤ g := Nat.le_of_eq hg.symm
  have PT : Hid (∀ W, w.heap.size ≤ W.heap.size → MB 83 64 g W g [] 0 → Calls Try.prog 24 #[.pointer (some ⟨g, 0, none⟩), .agg (⟨aw19, none, 0⟩ : Wm).ev.toArray, .agg aw19.stm.toArray] W fun e w' => e = .returned (.tuple #[.int .i64 1, .int .i64 0]) ∧ (∃ A' c', MB 83 64 g w' g [⟨aw19.as 1, A', c'⟩] 1) ∧ Tb w.heap.size tagP W w') := fun W hW h => by
    have := put_calls (B0 := w.heap.size) (x := ⟨aw19, none, 0⟩) h aw19_ok (Bs.nil W) (by omega) (by omega) (Nat.zero_le _) (by rw [hg]; exact hW) gl gl
    obtain ⟨p1, p2, p3, p4⟩ := aw19_put
    simp only [List.length_nil, p1, p2, p3, p4] at this
    exact this
  have LS : Hid (∀ W A c, MB 83 64 g W g [⟨aw19.as 1, A, c⟩] 1 → Calls Try.prog 29 #[.pointer (some ⟨g, 0, none⟩)] W fun e w' => ∃ q, e = .returned (.slice (some ⟨q, 0, none⟩) 1 1) ∧ W.heap.size ≤ q ∧ (∃ K, Cb w' q 64 K ∧ K[73]? = some (.int .i64 3)) ∧ Ext W w') := fun W A c h => by
    refine (list_calls h (by simp)).mono ?_
    rintro e w' ⟨q, L', h1, h2, h3, h4, h5, h6⟩
    refine ⟨q, h1, h2, ⟨_, h3, ?_⟩, h6⟩
    obtain ⟨y, l2, rfl, hy, h4⟩ := List.map_eq_cons_iff.1 h4
    obtain rfl := List.map_eq_nil_iff.1 h4
    have oy := (h5 y (List.mem_cons_self ..)).1
    rw [List.map_cons, List.map_nil, List.flatten_cons, List.flatten_nil, List.append_nil, y.c73 oy, hy]
    rfl
  have AK1 : Hid (∀ W A c, w.heap.size ≤ W.heap.size → MB 83 64 g W g [⟨aw19.as 1, A, c⟩] 1 → Calls Try.prog 26 #[.pointer (some ⟨g, 0, none⟩), .int .i64 1] W fun e w' => e = .returned (.int .i64 0) ∧ MB 83 64 g w' g [] 1 ∧ Tg w.heap.size tagP g W w') := fun W A c hW h => ack_calls (B0 := w.heap.size) h (by simp) (by rw [hg]; exact hW) gl
  have AK2 : Hid (∀ W, w.heap.size ≤ W.heap.size → MB 83 64 g W g [] 1 → Calls Try.prog 26 #[.pointer (some ⟨g, 0, none⟩), .int .i64 1] W fun e w' => e = .returned (.int .i64 5) ∧ MB 83 64 g w' g [] 1 ∧ Tg w.heap.size tagP g W w') := fun W hW h => ack_calls (B0 := w.heap.size) h (by simp) (by rw [hg]; exact hW) gl
  have AK3 : Hid (∀ W, w.heap.size ≤ W.heap.size → MB 83 64 g W g [] 1 → Calls Try.prog 26 #[.pointer (some ⟨g, 0, none⟩), .int .i64 2] W fun e w' => e = .returned (.int .i64 7) ∧ MB 83 64 g w' g [] 1 ∧ Tg w.heap.size tagP g W w') := fun W hW h => ack_calls (B0 := w.heap.size) h (by simp) (by rw [hg]; exact hW) gl
  have BE := Lib.hid aw19_ev
  have BS := Lib.hid aw19_st
  generalize (⟨aw19, none, 0⟩ : Wm).ev = EV at *
  generalize aw19.stm = ST at *
  generalize aw19.as 1 = d1 at *
  go_enter Try.func22, Try.ntmps22
  go_wp2_with fail
  refine NW.out.mono ?_
  rintro e w1 ⟨rfl, m1, x1⟩
  replace m1 := m1 g
  have PT1 := Lib.hid (PT.out w1 x1.size m1)
  replace x1 := Lib.hid x1
  clear NW PT m1 hg
  go_wp2_with (first
    | (refine wpList_build_as rfl _ _ rfl EV.toArray (by simp only [List.map_toArray, List.map_cons, List.map_nil]; exact BE.out) ?_; simp only [Act.put, List.setIfInBounds_toArray, List.set_cons_zero, List.set_cons_succ])
    | (refine wpList_build_as rfl _ _ rfl ST.toArray (by simp only [List.map_toArray, List.map_cons, List.map_nil]; exact BS.out) ?_; simp only [Act.put, List.setIfInBounds_toArray, List.set_cons_zero, List.set_cons_succ]))
  refine PT1.out.mono ?_
  rintro e w2 ⟨rfl, ⟨A2, c2, m2⟩, t2⟩
  have x2 : Hid (Ext w w2) := Tb.ext x1.out t2
  have LS2 := Lib.hid (LS.out w2 A2 c2 m2)
  replace m2 := Lib.hid m2
  clear PT1 x1 LS t2
  go_wp2_with fail
  refine LS2.out.mono ?_
  rintro e w3 ⟨q, rfl, hq, ⟨K, k3, h73⟩, e3⟩
  have m3 := m2.out.ext e3
  have x3 : Hid (Ext w w3) := x2.out.trans e3
  have AK3_ := Lib.hid (AK1.out w3 A2 c2 x3.out.size m3)
  have qg : some q ≠ some g := fun z => by have := m2.out.lt; have := Option.some.inj z; omega
  replace k3 := Lib.hid k3
  replace h73 := Lib.hid h73
  clear LS2 m2 x2 AK1 m3 e3
  go_wp2_with fail
  refine AK3_.out.mono ?_
  rintro e w4 ⟨rfl, m4, t4⟩
  have x4 : Hid (Ext w w4) := Tb.ext x3.out t4.1
  have c4 := (Cb.grown t4.2 k3.out qg).cell h73.out
  have AK4 := Lib.hid (AK2.out w4 x4.out.size m4)
  clear AK3_ x3 k3 t4 qg h73 AK2 m4
  go_wp2_with fail
  refine AK4.out.mono ?_
  rintro e w5 ⟨rfl, m5, t5⟩
  have x5 : Hid (Ext w w5) := Tb.ext x4.out t5.1
  have AK5 := Lib.hid (AK3.out w5 x5.out.size m5)
  clear AK4 x4 c4 t5 AK3 m5
  go_wp2_with fail
  refine AK5.out.mono ?_
  rintro e w6 ⟨rfl, m6, t6⟩
  have x6 : Hid (Ext w w6) := Tb.ext x5.out t6.1
  clear AK5 x5 t6 m6
  go_wp2_with fail
  go_ret
  exact ⟨rfl, x6.out⟩
end Go.Proofs.Ytojgmgghlkpfoaa
end

section
/-
  Rows of the numbers of those that are kept; lists whose numbers are apart.
-/
namespace Go.Proofs.Ytojgmgghlkpfoaa
open Go.ChangeShapes Go.WideShapes Go.ChangeAt Go.RowKit Go.Deep
set_option maxRecDepth 100000

def idsC (L : List Wm) : List (List Value) := L.map fun x => [Value.int .i64 x.d.id]
theorem infoI : (Try.prog.info? 3).map (fun i => (i.zero, i.size, i.bytes)) = some (some (.int .i64 0), 1, 8) := by kernel_rfl
theorem idsC_one (L : List Wm) : ∀ x ∈ idsC L, ∀ u ∈ x, u.oneCell' = true := fun x hx u hu => by
  obtain ⟨y, _, rfl⟩ := List.mem_map.1 hx
  rw [List.mem_singleton.1 hu]
  rfl
theorem idsC_app (L R : List Wm) : idsC (L ++ R) = idsC L ++ idsC R := List.map_append
theorem idsC_take (L : List Wm) (k : Nat) : (idsC L).take k = idsC (L.take k) := List.map_take.symm
theorem idsC_drop (L : List Wm) (k : Nat) : (idsC L).drop k = idsC (L.drop k) := List.map_drop.symm
theorem idsC_len (L : List Wm) : (idsC L).length = L.length := List.length_map _
/-- The number at place j. -/
theorem ids_at {w : World} {A : Option Addr} {n c j : Nat} {L : List Wm} (h : Cs w 1 A n c (idsC L)) (hj : j < n) (hl : j < L.length) : ∃ b off, A = some ⟨b, off, none⟩ ∧ b < w.heap.size ∧ w.cell? ⟨b, off + j, none⟩ = some (.int .i64 L[j].d.id) := by
  obtain ⟨b, off, hA, hb, hc⟩ := h.at hj
  refine ⟨b, off, hA, hb, ?_⟩
  have := hc 0 (.int .i64 L[j].d.id) (by rw [idsC, List.getD_eq_getElem?_getD, List.getElem?_map, List.getElem?_eq_getElem hl]; rfl)
  simpa using this
theorem OwnC.tb {B B' : Nat} {S : TypeId → Bool} {a b : World} {e : TypeId} {s : Nat} {A : Option Addr} {n c : Nat} {L : List (List Value)} (h : OwnC B' a e s A n c L) (t : Tb B S a b) (hS : S e = false) : OwnC B' b e s A n c L := h.keep fun _ _ hi _ => t.2.2.2.2 _ _ hi (.inr hS)

/-- The numbers are apart, and below next. -/
def Gd (L : List Wm) (next : Int) : Prop := (∀ x ∈ L, 1 ≤ x.d.id ∧ x.d.id < next) ∧ L.Pairwise fun x y => x.d.id ≠ y.d.id
theorem Gd.nil : Gd [] 1 := ⟨fun x hx => (by cases hx), List.Pairwise.nil⟩
theorem Gd.put {L : List Wm} {next : Int} (h : Gd L next) (h1 : 1 ≤ next) (d : Ml) (A : Option Addr) (c : Nat) : Gd (L ++ [⟨d.as next, A, c⟩]) (next + 1) := by
  refine ⟨fun x hx => ?_, ?_⟩
  · rcases List.mem_append.1 hx with q | q
    · have := h.1 x q
      omega
    · rw [List.mem_singleton.1 q]
      show 1 ≤ next ∧ next < next + 1
      omega
  · refine List.pairwise_append.2 ⟨h.2, List.pairwise_singleton _ _, fun a ha b hb => ?_⟩
    rw [List.mem_singleton.1 hb]
    have := (h.1 a ha).2
    show a.d.id ≠ next
    omega
theorem Gd.drop {L : List Wm} {next : Int} (h : Gd L next) {k : Nat} (hk : k < L.length) : (dropI L[k].d.id L = L.take k ++ L.drop (k + 1) ∧ hasI L[k].d.id L = true) ∧ 1 ≤ L[k].d.id ∧ L[k].d.id < next ∧ Gd (L.take k ++ L.drop (k + 1)) next := by
  have dk : L = L.take k ++ L[k] :: L.drop (k + 1) := by
    rw [← List.drop_eq_getElem_cons hk, List.take_append_drop]
  have hp := h.2
  have h0 := h.1 _ (List.getElem_mem hk)
  generalize L[k] = y at *
  rw [dk] at hp
  have hne : ∀ x ∈ L.take k, x.d.id ≠ y.d.id := fun x hx => (List.pairwise_append.1 hp).2.2 x hx y (List.mem_cons_self ..)
  have hd := dropI_at (P := L.take k) (x := y) (R := L.drop (k + 1)) hne rfl
  rw [← dk] at hd
  refine ⟨hd, h0.1, h0.2, fun x hx => h.1 x ?_, ?_⟩
  · rcases List.mem_append.1 hx with q | q
    · exact List.mem_of_mem_take q
    · exact List.mem_of_mem_drop q
  · exact hp.sublist (List.Sublist.append (List.Sublist.refl _) (List.sublist_cons_self _ _))
theorem akE_in {L : List Wm} {last id : Int} (h1 : 1 ≤ id) (h2 : id ≤ last) (h : hasI id L = true) : akE L last id = 0 := by
  unfold akE
  rw [if_neg (by omega), h]
  rfl
theorem akL_in {L : List Wm} {last id : Int} (h1 : 1 ≤ id) (h2 : id ≤ last) : akL L last id = dropI id L := by
  unfold akL
  rw [if_neg (by omega)]
end Go.Proofs.Ytojgmgghlkpfoaa
end

section
/-
  Lists whose numbers rise; what is put in MailboxOnce.
-/
namespace Go.Proofs.Ytojgmgghlkpfoaa
open Go.ChangeShapes Go.WideShapes Go.ChangeAt Go.RowKit Go.Deep
set_option maxRecDepth 100000

def Inc (L : List Wm) (n : Nat) : Prop := (L.Pairwise fun x y => x.d.id < y.d.id) ∧ ∀ x ∈ L, 1 ≤ x.d.id ∧ (x.d.id ≤ n → x.d.tm = x.d.id - 1)
theorem dropI_sub (id : Int) : ∀ L : List Wm, (dropI id L).Sublist L
  | [] => List.Sublist.slnil
  | x :: r => by
    rw [dropI]
    split
    · exact List.sublist_cons_self _ _
    · exact (dropI_sub id r).cons_cons _
theorem Inc.drop {L : List Wm} {n : Nat} (h : Inc L n) (id : Int) : Inc (dropI id L) n := ⟨h.1.sublist (dropI_sub id L), fun x hx => h.2 x ((dropI_sub id L).subset hx)⟩
theorem hasI_cons (j : Int) (x : Wm) (r : List Wm) : hasI j (x :: r) = ((x.d.id == j) || hasI j r) := by unfold hasI; rw [List.any_cons]
theorem hasI_none {j : Int} {L : List Wm} (h : hasI j L = false) : ∀ x ∈ L, x.d.id ≠ j := fun x hx q => by
  unfold hasI at h
  have := List.any_eq_false.1 h x hx
  simp [q] at this
theorem hasI_mem {L : List Wm} {x : Wm} (h : x ∈ L) : hasI x.d.id L = true := by
  unfold hasI
  exact List.any_eq_true.2 ⟨x, h, by simp⟩
theorem hasI_drop {id j : Int} : ∀ {L : List Wm}, (L.Pairwise fun x y => x.d.id < y.d.id) → hasI j (dropI id L) = (hasI j L && (j != id))
  | [], _ => by simp [dropI, hasI]
  | x :: r, h => by
    have hp := List.pairwise_cons.1 h
    rw [dropI, hasI_cons]
    by_cases hx : x.d.id = id
    · rw [if_pos hx]
      by_cases hj : j = id
      · have : hasI j r = false := by
          cases hh : hasI j r with
          | false => rfl
          | true =>
            unfold hasI at hh
            obtain ⟨y, hy, hyj⟩ := List.any_eq_true.1 hh
            have h1 := hp.1 y hy
            have h2 : y.d.id = j := by simpa using hyj
            omega
        rw [this, hj]
        simp
      · have h1 : (x.d.id == j) = false := by simp; omega
        have h2 : (j != id) = true := by simp [hj]
        rw [h1, h2]
        simp
    · rw [if_neg hx, hasI_cons, hasI_drop hp.2]
      by_cases hj : x.d.id = j
      · have h1 : (x.d.id == j) = true := by simp [hj]
        have h2 : (j != id) = true := by simp; omega
        rw [h1, h2]
        simp
      · have h1 : (x.d.id == j) = false := by simp [hj]
        rw [h1]
        simp
theorem dropI_len {id : Int} : ∀ {L : List Wm}, hasI id L = true → (dropI id L).length + 1 = L.length
  | [], h => by simp [hasI] at h
  | x :: r, h => by
    rw [dropI]
    by_cases hx : x.d.id = id
    · rw [if_pos hx]; rfl
    · rw [if_neg hx, List.length_cons, List.length_cons]
      rw [hasI_cons, show (x.d.id == id) = false by simp [hx], Bool.false_or] at h
      rw [dropI_len h]
theorem akE_is {L : List Wm} {last id : Int} (h1 : 1 ≤ id) (h2 : id ≤ last) : akE L last id = if hasI id L then 0 else 5 := by
  unfold akE
  rw [if_neg (by omega)]
/-- An envelope with a body of one byte, at a time. -/
def once19 (i : Nat) : Ml := ⟨0, (i : Int), 1, List.replicate 32 0, List.replicate 32 0, 0, 0, [UInt8.ofNat i], 0, 0, 0, (i : Int), List.replicate 32 0, List.replicate 32 0⟩
theorem once19_ok (i : Nat) : (once19 i).ok := ⟨⟨rfl, rfl⟩, ⟨rfl, rfl⟩, (show 1 ≤ 1000 by omega)⟩
theorem once19_E {i k : Nat} (h : i < 8) (hk : k < 8) : pbE (once19 i) k = 0 := by
  have h0 : okM (once19 i) = true := by
    show okE (i : Int) 1 0 0 1 = true
    unfold okE
    rw [show upB 1 7 = true from rfl, show okH 0 0 = true from rfl, show upB (i : Int) 7 = true by unfold upB; simp only [Bool.and_eq_true, decide_eq_true_eq]; omega]
    rfl
  unfold pbE
  rw [h0, if_pos rfl, if_pos hk]
theorem once19_p {i : Nat} {L : List Wm} (h : L.length = i) (hi : i < 8) : pbI (once19 i) L.length (i : Int) = (i : Int) + 1 ∧ pbE (once19 i) L.length = 0 ∧ pbM (once19 i) L.length (i : Int) = (i : Int) + 1 ∧ ∀ A c, pbL (once19 i) A c L (i : Int) = L ++ [⟨(once19 i).as ((i : Int) + 1), A, c⟩] := by
  have e := once19_E (i := i) (k := L.length) hi (by omega)
  refine ⟨?_, e, ?_, fun A c => ?_⟩
  · unfold pbI; rw [e, if_pos rfl]
  · unfold pbM; rw [e, if_pos rfl]
  · unfold pbL; rw [e, if_pos rfl]
theorem once19_ev {i : Nat} {v : Int} (A : Option Addr) (hv : v = (i : Int)) : Try.prog.built 35 [(0, .int .i64 v), (1, .int .i64 1), (4, .slice A 1 1)] = some (⟨once19 i, A, 1⟩ : Wm).ev.toArray := by subst hv; kernel_rfl
theorem once19_st (i : Nat) : Try.prog.built 51 [(3, .int .i64 (i : Int))] = some (once19 i).stm.toArray := by kernel_rfl
def zero19 : Ml := ⟨0, 0, 0, List.replicate 32 0, List.replicate 32 0, 0, 0, [], 0, 0, 0, 0, List.replicate 32 0, List.replicate 32 0⟩
theorem zero19_ok : zero19.ok := ⟨⟨rfl, rfl⟩, ⟨rfl, rfl⟩, Nat.zero_le _⟩
theorem zero19_ev : Try.prog.built 35 [] = some (⟨zero19, none, 0⟩ : Wm).ev.toArray := by kernel_rfl
theorem zero19_st : Try.prog.built 51 [] = some zero19.stm.toArray := by kernel_rfl
/-- The state behind so many puts. -/
def Oi (L : List Wm) (j : Nat) : Prop := L.length = j ∧ (L.Pairwise fun x y => x.d.id < y.d.id) ∧ (∀ x ∈ L, 1 ≤ x.d.id ∧ x.d.id ≤ j ∧ x.d.tm = x.d.id - 1) ∧ ∀ id : Int, 1 ≤ id → id ≤ j → hasI id L = true
theorem Oi.nil : Oi [] 0 := ⟨rfl, List.Pairwise.nil, fun x hx => (by cases hx), fun id h1 h2 => by omega⟩
theorem Oi.put {L : List Wm} {j : Nat} (h : Oi L j) (A : Option Addr) (c : Nat) : Oi (L ++ [⟨(once19 j).as ((j : Int) + 1), A, c⟩]) (j + 1) := by
  obtain ⟨h1, h2, h3, h4⟩ := h
  refine ⟨by simp [h1], ?_, fun x hx => ?_, fun id q1 q2 => ?_⟩
  · refine List.pairwise_append.2 ⟨h2, List.pairwise_singleton _ _, fun a ha b hb => ?_⟩
    rw [List.mem_singleton.1 hb]
    have := h3 a ha
    show a.d.id < (j : Int) + 1
    omega
  · rcases List.mem_append.1 hx with q | q
    · have := h3 x q
      omega
    · rw [List.mem_singleton.1 q]
      show 1 ≤ (j : Int) + 1 ∧ (j : Int) + 1 ≤ ((j + 1 : Nat) : Int) ∧ (j : Int) = (j : Int) + 1 - 1
      omega
  · unfold hasI
    rw [List.any_append]
    by_cases q : id ≤ (j : Int)
    · have := h4 id q1 q
      unfold hasI at this
      rw [this]
      rfl
    · have : id = (j : Int) + 1 := by omega
      subst this
      simp [Ml.as]
theorem Oi.last {L : List Wm} {n : Nat} (h : Oi L n) : Inc L n := ⟨h.2.1, fun x hx => ⟨(h.2.2.1 x hx).1, fun _ => (h.2.2.1 x hx).2.2⟩⟩
/-- One more is put behind them. -/
theorem Oi.more {L : List Wm} {n : Nat} (h : Oi L n) (A : Option Addr) (c : Nat) : Inc (L ++ [⟨zero19.as ((n : Int) + 1), A, c⟩]) n ∧ ∀ id : Int, 1 ≤ id → id ≤ n → hasI id (L ++ [⟨zero19.as ((n : Int) + 1), A, c⟩]) = true := by
  obtain ⟨h1, h2, h3, h4⟩ := h
  refine ⟨⟨?_, fun x hx => ?_⟩, fun id q1 q2 => ?_⟩
  · refine List.pairwise_append.2 ⟨h2, List.pairwise_singleton _ _, fun a ha b hb => ?_⟩
    rw [List.mem_singleton.1 hb]
    have := h3 a ha
    show a.d.id < (n : Int) + 1
    omega
  · rcases List.mem_append.1 hx with q | q
    · exact ⟨(h3 x q).1, fun _ => (h3 x q).2.2⟩
    · rw [List.mem_singleton.1 q]
      refine ⟨(show 1 ≤ (n : Int) + 1 by omega), fun z => ?_⟩
      have : (n : Int) + 1 ≤ (n : Int) := z
      omega
  · have := h4 id q1 q2
    unfold hasI at this ⊢
    rw [List.any_append, this]
    rfl
theorem zero19_okM : okM zero19 = true := by decide +kernel
/-- What is told of those that are gone. -/
def Gn (G : List Bool) (L : List Wm) (n : Nat) : Prop := G.length = n + 2 ∧ ∀ i : Nat, 1 ≤ i → i ≤ n → G[i]? = some (!hasI (i : Int) L)
theorem Gn.start {L : List Wm} {n : Nat} (h : ∀ id : Int, 1 ≤ id → id ≤ n → hasI id L = true) : Gn (List.replicate (n + 2) false) L n := ⟨by simp, fun i _ h2 => by rw [List.getElem?_replicate, if_pos (by omega), h (i : Int) (by omega) (by omega)]; rfl⟩
theorem Gn.drop {G : List Bool} {L : List Wm} {n i : Nat} (h : Gn G L n) (hi : L.Pairwise fun x y => x.d.id < y.d.id) (h1 : 1 ≤ i) (h2 : i ≤ n) : Gn (G.set i true) (dropI (i : Int) L) n := by
  refine ⟨by rw [List.length_set]; exact h.1, fun j j1 j2 => ?_⟩
  rw [hasI_drop hi, List.getElem?_set]
  by_cases q : i = j
  · subst q
    rw [if_pos rfl, if_pos (by rw [h.1]; omega)]
    simp
  · rw [if_neg q, h.2 j j1 j2]
    have : ((j : Int) != (i : Int)) = true := by simp; omega
    rw [this, Bool.and_true]
end Go.Proofs.Ytojgmgghlkpfoaa
end

section
/-
  A slice that reads as a list of numbers ('Is'). No conditions.
-/
namespace Go.Proofs.Ytojgmgghlkpfoaa
open Go.ChangeShapes Go.WideShapes Go.ChangeAt Go.RowKit Go.Deep

/-- The number at place k. -/
def nat_at (zs : List Int) (k : Nat) : Int := zs.getD k 0
/-- The slice '.slice A n c' reads as the numbers zs. -/
def Is (w : World) (A : Option Addr) (n c : Nat) (zs : List Int) : Prop :=
  zs.length = n ∧ n ≤ c ∧ c ≤ maxLen ∧ (0 < n → ∃ b off, A = some ⟨b, off, none⟩ ∧ b < w.heap.size ∧ ∀ j, j < n → w.cell? ⟨b, off + j, none⟩ = some (.int .i64 (nat_at zs j)) ∧ -9223372036854775808 ≤ nat_at zs j ∧ nat_at zs j ≤ 9223372036854775807)
section
variable {w w' : World} {A : Option Addr} {n c : Nat} {zs : List Int}
theorem Is.len (h : Is w A n c zs) : zs.length = n := h.1
theorem Is.le (h : Is w A n c zs) : n ≤ c := h.2.1
theorem Is.cap (h : Is w A n c zs) : c ≤ 9223372036854775807 := h.2.2.1
theorem Is.nil (w : World) : Is w none 0 0 [] := ⟨rfl, Nat.le_refl _, Nat.zero_le _, fun h => absurd h (by omega)⟩
theorem Is.pos (h : Is w A n c zs) (hn : 0 < n) : ∃ b off, A = some ⟨b, off, none⟩ ∧ b < w.heap.size ∧ ∀ j, j < n → w.cell? ⟨b, off + j, none⟩ = some (.int .i64 (nat_at zs j)) ∧ -9223372036854775808 ≤ nat_at zs j ∧ nat_at zs j ≤ 9223372036854775807 := h.2.2.2 hn
theorem Is.ext (h : Is w A n c zs) (he : Ext w w') : Is w' A n c zs :=
  ⟨h.1, h.2.1, h.2.2.1, fun hn => by
    obtain ⟨b, off, e, hb, hc⟩ := h.2.2.2 hn
    exact ⟨b, off, e, Nat.lt_of_lt_of_le hb he.size, fun j hj => ⟨(he.cell hb).trans (hc j hj).1, (hc j hj).2⟩⟩⟩
end

section
variable {H : Type} {enc : TypeId × Value → H} {W : World} {P : Program}
theorem ints_of_trod {t e : TypeId} {a : Option Addr} {len cap : Nat} {d : DataW H} {p : List MemPlace} (ht : P.underlying t = some (.slice e)) (he : P.underlying e = some (.int .i64)) (hc : P.cellsOf e = 1)
    (h : DataW.Trod enc P W 0 (fun _ => true) true t (.slice a len cap) d p) : ∃ zs, Is W a len cap zs := by
  obtain ⟨fuel, hf⟩ := h
  rcases open_ints ht he hc hf with ⟨hcs, _⟩ | ⟨x, l, c, zs, hcs, _, hl, hm, hz, _, hcell, hwz⟩
  · simp [Value.cells] at hcs
    obtain ⟨rfl, rfl, rfl⟩ := hcs
    exact ⟨[], Is.nil W⟩
  · simp [Value.cells] at hcs
    obtain ⟨rfl, rfl, rfl⟩ := hcs
    have hz' : zs.length = cap := by simpa using hz
    refine ⟨zs.take len, by simp; omega, hl, hm, fun h0 => ?_⟩
    obtain ⟨b, off, rfl, hcl⟩ := ints_at hcell (by omega)
    refine ⟨b, off, rfl, ?_, fun j hj => ?_⟩
    · have := hcl 0 (by omega)
      exact World.block_lt_of_cell? W _ this
    · have hj' : j < zs.length := by omega
      have hb : -9223372036854775808 ≤ zs[j] ∧ zs[j] ≤ 9223372036854775807 := by simpa [Lit.wf, IntKind.min, IntKind.max, IntKind.signed, IntKind.bits] using hwz _ (List.getElem_mem hj')
      have e : nat_at (zs.take len) j = zs[j] := by simp [nat_at, List.getD, hj', hj]
      rw [e]
      refine ⟨?_, hb⟩
      rw [hcl j hj']
      simp [List.getD, hj']
end
end Go.Proofs.Ytojgmgghlkpfoaa
end
