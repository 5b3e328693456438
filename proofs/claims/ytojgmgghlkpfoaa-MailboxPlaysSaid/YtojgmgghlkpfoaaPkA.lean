import Derived.Test.YtojgmgghlkpfoaaLeaf
import Derived.Test.YtojgmgghlkpfoaaSame19
import Derived.Test.YtojgmgghlkpfoaaAck
section
/-
  Calls as the law MailboxPlays lists them. No conditions.
-/
namespace Go.Proofs.Ytojgmgghlkpfoaa
open Go.ChangeShapes Go.WideShapes Go.ChangeAt Go.RowKit Go.Deep
set_option maxRecDepth 100000

structure O19 where
  d : Int
  id : Int
  x : Wm
def O19.C (o : O19) : List Value := [.int .i64 o.d, .int .i64 o.id] ++ (o.x.ev ++ o.x.d.stm)
/-- The keys have their lengths. -/
def Ml.keys (x : Ml) : Prop := (x.cm.length = 32 ∧ x.pk.length = 32) ∧ (x.sc.length = 32 ∧ x.sg.length = 32)
theorem Ml.keys.ok {x : Ml} (h : x.keys) (hb : x.body.length ≤ 1000) : x.ok := ⟨h.1, h.2, hb⟩
theorem Wm.ev_len' {x : Wm} (h : x.d.keys) : x.ev.length = 69 := evC_len h.1.1 h.1.2 _ _ _ _ _ _ _
theorem Ml.stm_len' {d : Ml} (h : d.keys) : d.stm.length = 68 := stC_len h.2.1 h.2.2 _ _ _ _
theorem O19.C_len {o : O19} (h : o.x.d.keys) : o.C.length = 139 := by simp [O19.C, o.x.ev_len' h, o.x.d.stm_len' h]
theorem O19.one (o : O19) : ∀ v ∈ o.C, v.oneCell' = true := fun v hv => by
  simp only [O19.C, List.mem_append, List.mem_cons, List.not_mem_nil, or_false] at hv
  rcases hv with (rfl | rfl) | h | h
  · rfl
  · rfl
  · exact one_ev v h
  · exact one_st v h
theorem O19.c0 (o : O19) : o.C[0]? = some (.int .i64 o.d) := rfl
theorem O19.c1 (o : O19) : o.C[1]? = some (.int .i64 o.id) := rfl
theorem O19.ce (o : O19) (q : Nat) (v : Value) (h : o.x.ev[q]? = some v) : o.C[2 + q]? = some v := by
  show ([Value.int .i64 o.d, .int .i64 o.id] ++ (o.x.ev ++ o.x.d.stm))[2 + q]? = some v
  rw [List.getElem?_append_right (by simp), List.length_cons, List.length_singleton, Nat.add_sub_cancel_left, List.getElem?_append_left (List.getElem?_eq_some_iff.1 h).1, h]
theorem O19.cs {o : O19} (k : o.x.d.keys) (q : Nat) (v : Value) (h : o.x.d.stm[q]? = some v) : o.C[71 + q]? = some v := by
  show ([Value.int .i64 o.d, .int .i64 o.id] ++ (o.x.ev ++ o.x.d.stm))[71 + q]? = some v
  rw [List.getElem?_append_right (by simp; omega), List.getElem?_append_right (by rw [o.x.ev_len' k]; simp; omega), o.x.ev_len' k, List.length_cons, List.length_singleton, show 71 + q - 2 - 69 = q by omega, h]
theorem O19.c70 {o : O19} (k : o.x.d.keys) : o.C[70]? = some (.slice o.x.A o.x.d.body.length o.x.c) :=
  o.ce 68 _ (ev_cells k.1.1 k.1.2 o.x.d.f o.x.d.t o.x.d.p o.x.d.n o.x.A o.x.d.body.length o.x.c).2.2.1
theorem o19_of {W : World} {x : List Value} (h : FitL W (.i .i64 :: (.i .i64 :: (.i .i64 :: (.i .i64 :: (List.replicate 32 (.i .u8) ++ (List.replicate 32 (.i .u8) ++ (.i .i64 :: (.i .i64 :: (.s8 :: (.i .i64 :: (.i .i64 :: (.i .i64 :: (.i .i64 :: (List.replicate 32 (.i .u8) ++ (List.replicate 32 (.i .u8) ++ []))))))))))))))) x) :
    ∃ o : O19, x = o.C ∧ (o.x.d.keys ∧ Bs W o.x.A o.x.d.body.length o.x.c o.x.d.body) := by
  obtain ⟨d, r, rfl, _, h⟩ := h.int
  obtain ⟨id, r, rfl, _, h⟩ := h.int
  obtain ⟨f, r, rfl, _, h⟩ := h.int
  obtain ⟨t, r, rfl, _, h⟩ := h.int
  obtain ⟨cm, r, rfl, lcm, h⟩ := h.key
  obtain ⟨pk, r, rfl, lpk, h⟩ := h.key
  obtain ⟨p, r, rfl, _, h⟩ := h.int
  obtain ⟨n, r, rfl, _, h⟩ := h.int
  obtain ⟨A, m, c, xs, r, rfl, bs, h⟩ := h.bs
  obtain ⟨ep, r, rfl, _, h⟩ := h.int
  obtain ⟨sf, r, rfl, _, h⟩ := h.int
  obtain ⟨st, r, rfl, _, h⟩ := h.int
  obtain ⟨tm, r, rfl, _, h⟩ := h.int
  obtain ⟨sc, r, rfl, lsc, h⟩ := h.key
  obtain ⟨sg, r, rfl, lsg, h⟩ := h.key
  obtain rfl := h.nil
  obtain rfl : xs.length = m := bs.len
  exact ⟨⟨d, id, ⟨⟨0, f, t, cm, pk, p, n, xs, ep, sf, st, tm, sc, sg⟩, A, c⟩⟩, by simp [O19.C, Wm.ev, Ml.stm, evC, stC, hdC], ⟨⟨lcm, lpk⟩, lsc, lsg⟩, bs⟩
theorem list_of19 {α : Type} {p : α → Prop} {f : α → List Value} : ∀ {K : List (List Value)}, (∀ x ∈ K, ∃ o, x = f o ∧ p o) → ∃ L : List α, K = L.map f ∧ ∀ o ∈ L, p o
  | [], _ => ⟨[], rfl, fun o h => by cases h⟩
  | x :: K, h => by
    obtain ⟨o, rfl, ho⟩ := h x (List.mem_cons_self ..)
    obtain ⟨L, rfl, hL⟩ := list_of19 fun y hy => h y (List.mem_cons_of_mem _ hy)
    exact ⟨o :: L, rfl, fun z hz => by
      rcases List.mem_cons.1 hz with rfl | hz
      · exact ho
      · exact hL z hz⟩
/-- The whole i-th call. -/
theorem o19_all {w : World} {A : Option Addr} {n c : Nat} {L : List O19} (h : Cs w 139 A n c (L.map O19.C)) (ok : ∀ o ∈ L, o.x.d.keys ∧ Bs w o.x.A o.x.d.body.length o.x.c o.x.d.body) {i : Nat} (hi : i < n) :
    ∃ b off, ∃ o : O19, A = some ⟨b, off, none⟩ ∧ o.x.d.keys ∧ (∀ s, Ext w s → Bs s o.x.A o.x.d.body.length o.x.c o.x.d.body) ∧ ∀ s, Ext w s → ∀ q v, o.C[q]? = some v → s.cell? ⟨b, off + i * 139 + q, none⟩ = some v := by
  have hl : L.length = n := by have := h.1.1; rwa [List.length_map] at this
  have hL : L[i]? = some (L[i]'(by omega)) := List.getElem?_eq_getElem _
  obtain ⟨b, off, hA, hb, hc⟩ := h.at hi
  have e1 : (L.map O19.C).getD i [] = (L[i]'(by omega)).C := by rw [List.getD_eq_getElem?_getD, List.getElem?_map, hL]; rfl
  rw [e1] at hc
  obtain ⟨k1, k2⟩ := ok _ (List.getElem_mem (show i < L.length by omega))
  exact ⟨b, off, _, hA, k1, fun s e => k2.ext e, fun s e q v hv => (e.cell hb).trans (hc q v hv)⟩
/-- What comes of a Put and of an Ack hangs on the data alone. -/
theorem hasI_data {id : Int} : ∀ {L R : List Wm}, L.map (·.d) = R.map (·.d) → hasI id L = hasI id R
  | [], [], _ => rfl
  | [], _ :: _, h => by cases h
  | _ :: _, [], h => by cases h
  | x :: L, y :: R, h => by
    have h1 : x.d = y.d := (List.cons.inj h).1
    have h2 := hasI_data (id := id) (L := L) (R := R) (List.cons.inj h).2
    unfold hasI at h2 ⊢
    rw [List.any_cons, List.any_cons, h1, h2]
theorem dropI_data {id : Int} : ∀ {L R : List Wm}, L.map (·.d) = R.map (·.d) → (dropI id L).map (·.d) = (dropI id R).map (·.d)
  | [], [], _ => rfl
  | [], _ :: _, h => by cases h
  | _ :: _, [], h => by cases h
  | x :: L, y :: R, h => by
    have h1 : x.d = y.d := (List.cons.inj h).1
    have h2 : L.map (·.d) = R.map (·.d) := (List.cons.inj h).2
    rw [dropI, dropI, h1]
    split
    · exact h2
    · rw [List.map_cons, List.map_cons, h1, dropI_data h2]
theorem akE_data {last id : Int} {L R : List Wm} (h : L.map (·.d) = R.map (·.d)) : akE L last id = akE R last id := by unfold akE; rw [hasI_data h]
theorem akL_data {last id : Int} {L R : List Wm} (h : L.map (·.d) = R.map (·.d)) : (akL L last id).map (·.d) = (akL R last id).map (·.d) := by
  unfold akL
  split
  · exact h
  · exact dropI_data h
theorem dropI_sub' (id : Int) : ∀ L : List Wm, (dropI id L).Sublist L
  | [] => List.Sublist.slnil
  | x :: r => by
    rw [dropI]
    split
    · exact List.sublist_cons_self _ _
    · exact (dropI_sub' id r).cons_cons _
theorem akL_len {last id : Int} {L : List Wm} : (akL L last id).length ≤ L.length := by
  unfold akL
  split
  · exact Nat.le_refl _
  · exact (dropI_sub' id L).length_le
theorem pbL_data {d : Ml} {A A' : Option Addr} {c c' : Nat} {last : Int} {L R : List Wm} (h : L.map (·.d) = R.map (·.d)) : (pbL d A c L last).map (·.d) = (pbL d A' c' R last).map (·.d) := by
  have hl : L.length = R.length := by rw [← List.length_map (f := fun x : Wm => x.d), h, List.length_map]
  unfold pbL
  rw [hl]
  split
  · rw [List.map_append, List.map_append, h]; rfl
  · exact h
theorem pbL_len {d : Ml} {A : Option Addr} {c : Nat} {last : Int} {L : List Wm} (h : L.length ≤ 8) : (pbL d A c L last).length ≤ 8 := by
  unfold pbL
  split
  · rename_i q
    have : L.length < 8 := by
      unfold pbE at q
      split at q
      · split at q
        · assumption
        · simp at q
      · simp at q
    rw [List.length_append]
    simp
    omega
  · exact h
theorem pbM_le {d : Ml} {k : Nat} {last : Int} (h : 0 ≤ last) : 0 ≤ pbM d k last ∧ pbM d k last ≤ last + 1 := by
  unfold pbM
  split <;> omega
end Go.Proofs.Ytojgmgghlkpfoaa
end

section
/-
  palfreylaw19.awake.
-/
namespace Go.Proofs.Ytojgmgghlkpfoaa
open Go.ChangeShapes Go.WideShapes Go.ChangeAt Go.RowKit Go.Deep
set_option maxRecDepth 100000

def aw19 : Ml := ⟨0, 0, 1, List.replicate 32 0, List.replicate 32 0, 0, 0, [], 0, 0, 0, 3, List.replicate 32 0, List.replicate 32 0⟩
theorem aw19_ok : aw19.ok := ⟨⟨rfl, rfl⟩, ⟨rfl, rfl⟩, Nat.zero_le _⟩
theorem aw19_put : pbI aw19 0 0 = 1 ∧ pbE aw19 0 = 0 ∧ pbM aw19 0 0 = 1 ∧ ∀ A c, pbL aw19 A c [] 0 = [⟨aw19.as 1, A, c⟩] := by
  have h : pbE aw19 0 = 0 := by decide +kernel
  refine ⟨?_, h, ?_, fun A c => ?_⟩
  · unfold pbI; rw [h]; rfl
  · unfold pbM; rw [h]; rfl
  · unfold pbL; rw [show ([] : List Wm).length = 0 from rfl, h]; rfl
theorem aw19_ev : Try.prog.built 35 [(1, .int .i64 1)] = some (⟨aw19, none, 0⟩ : Wm).ev.toArray := by kernel_rfl
theorem aw19_st : Try.prog.built 51 [(3, .int .i64 3)] = some aw19.stm.toArray := by kernel_rfl
set_option maxHeartbeats 8000000 in
theorem awake19_calls {w : World} : Calls Try.prog 22 #[] w fun e w' => e = .returned (.bool true) ∧ Ext w w' := by
  have NW := Lib.hid (new_calls (w := w))
  obtain ⟨g, hg⟩ : ∃ g, g = w.heap.size := ⟨_, rfl⟩
  rw [← hg] at NW
  have gl : w.heap.size ≤ g := Nat.le_of_eq hg.symm
  have PT : Hid (∀ W, w.heap.size ≤ W.heap.size → MB 83 64 g W g [] 0 → Calls Try.prog 24 #[.pointer (some ⟨g, 0, none⟩), .agg (⟨aw19, none, 0⟩ : Wm).ev.toArray, .agg aw19.stm.toArray] W fun e w' => e = .returned (.tuple #[.int .i64 1, .int .i64 0]) ∧ (∃ A' c', MB 83 64 g w' g [⟨aw19.as 1, A', c'⟩] 1) ∧ Tb w.heap.size tagP W w') := fun W hW h => by
    have := put_calls (B0 := w.heap.size) (x := ⟨aw19, none, 0⟩) h aw19_ok (Bs.nil W) (by omega) (by omega) (Nat.zero_le _) (by rw [hg]; exact hW) gl gl
    obtain ⟨p1, p2, p3, p4⟩ := aw19_put
    simp only [List.length_nil, p1, p2, p3, p4] at this
    exact this
  have LS : Hid (∀ W A c, MB 83 64 g W g [⟨aw19.as 1, A, c⟩] 1 → Calls Try.prog 29 #[.pointer (some ⟨g, 0, none⟩)] W fun e w' => ∃ q, e = .returned (.slice (some ⟨q, 0, none⟩) 1 1) ∧ W.heap.size ≤ q ∧ (∃ K, Cb w' q 64 K ∧ K[73]? = some (.int .i64 3)) ∧ Ext W w') := fun W A c h => by
    refine (list_calls h (by simp)).mono ?_
    rintro e w' ⟨q, L', h1, h2, h3, h4, h5, h6⟩
    refine ⟨q, h1, h2, ⟨_, h3, ?_⟩, h6⟩
    obtain ⟨y, l2, rfl, hy, h4⟩ := List.map_eq_cons_iff.1 h4
    obtain rfl := List.map_eq_nil_iff.1 h4
    have oy := (h5 y (List.mem_cons_self ..)).1
    rw [List.map_cons, List.map_nil, List.flatten_cons, List.flatten_nil, List.append_nil, y.c73 oy, hy]
    rfl
  have AK1 : Hid (∀ W A c, w.heap.size ≤ W.heap.size → MB 83 64 g W g [⟨aw19.as 1, A, c⟩] 1 → Calls Try.prog 26 #[.pointer (some ⟨g, 0, none⟩), .int .i64 1] W fun e w' => e = .returned (.int .i64 0) ∧ MB 83 64 g w' g [] 1 ∧ Tg w.heap.size tagP g W w') := fun W A c hW h => ack_calls (B0 := w.heap.size) h (by simp) (by rw [hg]; exact hW) gl
  have AK2 : Hid (∀ W, w.heap.size ≤ W.heap.size → MB 83 64 g W g [] 1 → Calls Try.prog 26 #[.pointer (some ⟨g, 0, none⟩), .int .i64 1] W fun e w' => e = .returned (.int .i64 5) ∧ MB 83 64 g w' g [] 1 ∧ Tg w.heap.size tagP g W w') := fun W hW h => ack_calls (B0 := w.heap.size) h (by simp) (by rw [hg]; exact hW) gl
  have AK3 : Hid (∀ W, w.heap.size ≤ W.heap.size → MB 83 64 g W g [] 1 → Calls Try.prog 26 #[.pointer (some ⟨g, 0, none⟩), .int .i64 2] W fun e w' => e = .returned (.int .i64 7) ∧ MB 83 64 g w' g [] 1 ∧ Tg w.heap.size tagP g W w') := fun W hW h => ack_calls (B0 := w.heap.size) h (by simp) (by rw [hg]; exact hW) gl
  have BE := Lib.hid aw19_ev
  have BS := Lib.hid aw19_st
  generalize (⟨aw19, none, 0⟩ : Wm).ev = EV at *
  generalize aw19.stm = ST at *
  generalize aw19.as 1 = d1 at *
  go_enter Try.func22, Try.ntmps22
  go_wp2_with fail
  refine NW.out.mono ?_
  rintro e w1 ⟨rfl, m1, x1⟩
  replace m1 := m1 g
  have PT1 := Lib.hid (PT.out w1 x1.size m1)
  replace x1 := Lib.hid x1
  clear NW PT m1 hg
  go_wp2_with (first
    | (refine wpList_build_as rfl _ _ rfl EV.toArray (by simp only [List.map_toArray, List.map_cons, List.map_nil]; exact BE.out) ?_; simp only [Act.put, List.setIfInBounds_toArray, List.set_cons_zero, List.set_cons_succ])
    | (refine wpList_build_as rfl _ _ rfl ST.toArray (by simp only [List.map_toArray, List.map_cons, List.map_nil]; exact BS.out) ?_; simp only [Act.put, List.setIfInBounds_toArray, List.set_cons_zero, List.set_cons_succ]))
  refine PT1.out.mono ?_
  rintro e w2 ⟨rfl, ⟨A2, c2, m2⟩, t2⟩
  have x2 : Hid (Ext w w2) := Tb.ext x1.out t2
  have LS2 := Lib.hid (LS.out w2 A2 c2 m2)
  replace m2 := Lib.hid m2
  clear PT1 x1 LS t2
  go_wp2_with fail
  refine LS2.out.mono ?_
  rintro e w3 ⟨q, rfl, hq, ⟨K, k3, h73⟩, e3⟩
  have m3 := m2.out.ext e3
  have x3 : Hid (Ext w w3) := x2.out.trans e3
  have AK3_ := Lib.hid (AK1.out w3 A2 c2 x3.out.size m3)
  have qg : some q ≠ some g := fun z => by have := m2.out.lt; have := Option.some.inj z; omega
  replace k3 := Lib.hid k3
  replace h73 := Lib.hid h73
  clear LS2 m2 x2 AK1 m3 e3
  go_wp2_with fail
  refine AK3_.out.mono ?_
  rintro e w4 ⟨rfl, m4, t4⟩
  have x4 : Hid (Ext w w4) := Tb.ext x3.out t4.1
  have c4 := (Cb.grown t4.2 k3.out qg).cell h73.out
  have AK4 := Lib.hid (AK2.out w4 x4.out.size m4)
  clear AK3_ x3 k3 t4 qg h73 AK2 m4
  go_wp2_with fail
  refine AK4.out.mono ?_
  rintro e w5 ⟨rfl, m5, t5⟩
  have x5 : Hid (Ext w w5) := Tb.ext x4.out t5.1
  have AK5 := Lib.hid (AK3.out w5 x5.out.size m5)
  clear AK4 x4 c4 t5 AK3 m5
  go_wp2_with fail
  refine AK5.out.mono ?_
  rintro e w6 ⟨rfl, m6, t6⟩
  have x6 : Hid (Ext w w6) := Tb.ext x5.out t6.1
  clear AK5 x5 t6 m6
  go_wp2_with fail
  go_ret
  exact ⟨rfl, x6.out⟩
end Go.Proofs.Ytojgmgghlkpfoaa
end
