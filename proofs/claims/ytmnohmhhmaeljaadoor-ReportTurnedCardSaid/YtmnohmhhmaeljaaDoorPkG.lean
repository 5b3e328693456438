import Derived.Test.YtmnohmhhmaeljaaDoorPkK
import Derived.Test.YtmnohmhhmaeljaaDoorOwnG
import Derived.Test.YtmnohmhhmaeljaaDoorPkL
import Derived.Test.YtmnohmhhmaeljaaDoorPkI
import Derived.Test.YtmnohmhhmaeljaaDoorRead16
import Derived.Recover
import Derived.Test.YtmnohmhhmaeljaaDoorLowM
import Derived.Test.YtmnohmhhmaeljaaDoorWords
import Derived.Test.YtmnohmhhmaeljaaDoorCells
section
/-
  octets.Part (over JoinB) parts bytes into the rows that were joined.
-/
namespace Go.Proofs.YtmnohmhhmaeljaaDoor
open Go.ChangeShapes Go.WideShapes Go.ChangeAt Go.RowKit Go.Deep

/-- What holds when k rows are parted and q bytes are left. -/
def PartAt (w wr : World) (xs : List UInt8) (n : Nat) (x v : Value) : Prop :=
  ∃ (q cb k cc : Nat) (Ab D : Option Addr) (ys : List UInt8) (l : List (List UInt8)), x = .slice Ab q cb ∧ v = .slice D k cc ∧ Bs w Ab q cb ys ∧ OwnG w.heap.size wr D k cc l ∧ Ext w wr ∧ partL xs = (partL ys).map (l ++ ·) ∧ k + q ≤ n

/-- What Part hands back, in memory of its own. -/
def RetPartG (r : Option (List (List UInt8))) (w : World) (e : Ending) (w' : World) : Prop := ∃ A n c, e = .returned (.tuple #[.slice A n c, .int .i64 (if r.isSome then 0 else 3)]) ∧ OwnG w.heap.size w' A n c (r.getD []) ∧ Ext w w'
theorem RetPartG.bad {r : Option (List (List UInt8))} {w w' : World} (h : r = none) (he : Ext w w') : RetPartG r w (.returned (.tuple #[.slice none 0 0, .int .i64 3])) w' := by
  subst h
  exact ⟨none, 0, 0, rfl, OwnG.nil _ _, he⟩
theorem RetPartG.good {r : Option (List (List UInt8))} {w w' : World} {A : Option Addr} {n c : Nat} {l : List (List UInt8)} (h : r = some l) (hl : OwnG w.heap.size w' A n c l) (he : Ext w w') : RetPartG r w (.returned (.tuple #[.slice A n c, .int .i64 0])) w' := by
  subst h
  exact ⟨A, n, c, rfl, hl, he⟩

theorem part_next {xs ys : List UInt8} {l : List (List UInt8)} {m : Nat} (h : partL xs = (partL ys).map (l ++ ·)) (h4 : 4 ≤ ys.length) (hm : ofLowL (ys.take 4).reverse = m) (hle : m ≤ (ys.drop 4).length) :
    partL xs = (partL ((ys.drop 4).drop m)).map ((l ++ [(ys.drop 4).take m]) ++ ·) := by
  rw [h, partL_step h4 (by omega), hm]
  cases partL ((ys.drop 4).drop m) <;> simp

theorem cell_new (w : World) (t : TypeId) (v : Value) : (w.alloc (.cells #[v] t)).cell? ⟨w.heap.size, 0, none⟩ = some v :=
  (World.rowIs_alloc w #[v] t (fun _ => v) (fun i hi => by simp at hi; subst hi; rfl)).cell (by simp)

set_option maxHeartbeats 2000000 in
theorem part_calls {A : Option Addr} {n c : Nat} {xs : List UInt8} {w : World} (h : Bs w A n c xs) (hm : n ≤ 1000000) :
    Calls Tryd.prog 54 #[.slice A n c] w (RetPartG (partL xs) w) := by
  go_enter Tryd.func54, Tryd.ntmps54
  go_wp2
  go_loopw [0, 4] (fun x v wr => PartAt w wr xs n x v) (fun x _ _ => lenOf x)
  case atStart => exact ⟨n, c, 0, 0, A, none, xs, [], rfl, rfl, h, OwnG.nil _ _, Ext.refl w, by simp, by omega⟩
  case round =>
    obtain ⟨q, cb, k, cc, Ab, D, ys, l, rfl, rfl, hb, ho, hE, hp, hk⟩ := hrel
    have HP := Lib.hid hp
    clear hp h
    have h1 := hb.le
    have h2 := hb.cap
    have hlen := hb.len
    have HL := Lib.hid hlen
    clear hlen
    have hsz := hE.size
    rcases Nat.eq_zero_or_pos q with rfl | hq0
    · go_wp2
      go_ret2
      exact RetPartG.good (by rw [HP.out, hb.zero, partL_nil]; simp) ho hE
    · by_cases hq4 : q < 4
      · go_wp2
        go_ret2
        exact RetPartG.bad (by rw [HP.out, partL_short (by rw [HL.out]; exact hq0) (by rw [HL.out]; exact hq4)]; rfl) hE
      · obtain ⟨m, hmm⟩ : ∃ m, Hid (ofLowL (ys.take 4).reverse = m) := ⟨_, rfl⟩
        have hof := ofHigh_calls (m := 4) ((hb.ext hE).take (show 4 ≤ q by omega)) (by omega) (by omega) (by omega)
        rw [List.take_take, Nat.min_self, hmm.out] at hof
        have HOF := Lib.hid hof
        have hm32 : m < 4294967296 := by
          have := ofLowL_lt (ys.take 4).reverse
          rw [hmm.out, List.length_reverse, List.length_take, HL.out, Nat.min_eq_left (by omega)] at this
          exact this
        have h4c : 4 ≤ cb := by omega
        clear hof
        by_cases hbig : q - 4 < m
        · go_wp2_with (first
            | (go_at_call 56; refine HOF.out.mono ?_; rintro e w1 ⟨rfl, e1⟩)
            | ((with_reducible refine wpList_cut rfl (x := .tmp 15) (lo := .const (.int .i64 4)) (k := 4) rfl rfl rfl (by omega) (by omega) (by omega) ?_); intro A4 hcut4; have hb4 := hcut4 _ _ hb; clear hcut4))
          go_ret2
          exact RetPartG.bad (by rw [HP.out, partL_long (by rw [HL.out]; omega) (by rw [hmm.out, List.length_drop, HL.out]; exact hbig)]; rfl) (hE.trans e1)
        · have hmq : m ≤ q - 4 := by omega
          have hmc : m ≤ cb - 4 := by omega
          go_wp2_with (first
            | (go_at_call 56; refine HOF.out.mono ?_; rintro e w1 ⟨rfl, e1⟩)
            | ((with_reducible refine wpList_cut rfl (x := .tmp 15) (lo := .const (.int .i64 4)) (k := 4) rfl rfl rfl (by omega) (by omega) (by omega) ?_); intro A4 hcut4; have hb4 := hcut4 _ _ hb; clear hcut4)
            | (at_builtin; (with_reducible refine wpList_append_bs rfl (B := w1.heap.size) (s := .const (.slice none 0 0)) (x := .tmp 25) rfl rfl rfl (Own.nil _ _) ((hb4.take hmq).ext (hE.trans e1)) (by omega) (Nat.le_refl _) ?_); intro A5 c5 w2 ho2 hg2 hbl2; simp only [Nat.zero_add, List.nil_append] at ho2; have E2 : Ext w1 w2 := hbl2)
            | (at_builtin; (with_reducible refine wpList_append_rg rfl (B := w.heap.size) (s := .tmp 22) (x := .tmp 27) rfl rfl rfl (ho.ext ((e1.trans E2).alloc _)) (cell_new _ _ _) (ho2.bs.ext ((Ext.refl _).alloc _)) (far_of_newG ho2 (ho.ext e1) (hE.trans e1).size) (by omega) (((hE.trans e1).trans E2).alloc _).size ?_); intro D3 c3 w3 ho3 hbl3)
            | ((with_reducible refine wpList_cut rfl (x := .tmp 29) (lo := .tmp 30) (k := m) rfl rfl rfl rfl hmq (by omega) ?_); intro A6 hcut6; have hb6 := hcut6 _ _ hb4; clear hcut6))
          go_roundw
          case rel => exact ⟨_, _, _, _, A6, D3, _, _, rfl, rfl, hb6, ho3, (((hE.trans e1).trans E2).alloc _).trans' hbl3, part_next HP.out (by rw [HL.out]; omega) hmm.out (by rw [List.length_drop, HL.out]; exact hmq), by omega⟩
          case measure => simp [lenOf]; omega
end Go.Proofs.YtmnohmhhmaeljaaDoor
end

section
/-
  report.Read's deferred closure; what Read hands back.
-/
namespace Go.Proofs.YtmnohmhhmaeljaaDoor
open Go.ChangeShapes Go.WideShapes Go.ChangeAt Go.RowKit Go.Deep
set_option maxRecDepth 100000

/-- The cells of a report that is none. -/
def zRC : List Value := rpC 0 0 none 0 0 (List.replicate 32 0) zSm.C
theorem zRC_len : zRC.length = 103 := rpC_len rfl (Sm.C_len zSm_ok) _ _ _ _ _
theorem zRC_one : zRC.toArray.all (·.oneCell') = true := one_cells one_rp
theorem report_built0 : Tryd.prog.built 28 [] = some zRC.toArray := by kernel_rfl
theorem report_alloc (w : World) : (zeroValue 28).run Tryd.prog w = .ok (.agg zRC.toArray) w := by kernel_rfl
/-- The call hands back a report and an error's number. -/
def RetRp (m : Rm) (er : Int) (w : World) (e : Ending) (w' : World) : Prop := ∃ A n c, e = .returned (.tuple #[.agg (rpC m.id m.whose A n c m.op m.st.C).toArray, .int .i64 er]) ∧ Bs w' A n c m.txt ∧ Ext w w'
theorem RetRp.zero {RM : Rm} {RE er : Int} {w w' : World} (h1 : RM = zRm) (h2 : RE = er) (x : Ext w w') : RetRp RM RE w (.returned (.tuple #[.agg zRC.toArray, .int .i64 er])) w' := by
  subst h1 h2
  exact ⟨none, 0, 0, rfl, Bs.nil _, x⟩
theorem results17 {tmps : Array Value} {w : World} {p q : Nat} {L : List Value} {z : Int} (hp : tmps.getD 2 undef = .pointer (some ⟨p, 0, none⟩)) (hq : tmps.getD 3 undef = .pointer (some ⟨q, 0, none⟩)) (k2 : Cb w p 28 L) (k3 : Cb w q 30 [.int .i64 z]) (lh : L.length = 103) :
    (results Tryd.f17 tmps).run Tryd.prog w = .ok (.tuple #[.agg L.toArray, .int .i64 z]) w := by
  have S_L : L.toArray.size = 103 := by rw [List.size_toArray, lh]
  have l1 := run_loadVar_row w p 28 28 L.toArray (0, 0) _ k2 Tryd.underlying28 rfl (by rw [S_L]; rfl)
  have c3 := k3.cell (j := 0) rfl
  have l2 : (loadVar 30 ⟨q, 0, none⟩).run Tryd.prog w = .ok (.int .i64 z) w := by go_simp
  have hp' : tmps[2]?.getD undef = .pointer (some ⟨p, 0, none⟩) := by simpa using hp
  have hq' : tmps[3]?.getD undef = .pointer (some ⟨q, 0, none⟩) := by simpa using hq
  simp [results, Tryd.results17, hp', hq', asAddr, l1, l2, Sem.run_bind, Result.andThen]
theorem catchR_idle {p q : Addr} {w : World} :
    CallsD Tryd.prog 52 #[.pointer (some p), .pointer (some q)] .returning w fun e u' w' => e = .returned (.tuple #[]) ∧ u' = .returning ∧ Ext w w' := by
  refine callsD_of_wpS Tryd.func52 rfl fun c₀ cs hu => ?_
  apply wpS_seq
  apply wpS_region
  simp [wpOpsS, go_sem, recoverD, hu, Tryd.ntmps52, Exit.thenS]
  refine wpS_of_wp ?_
  go_wp2_with fail
  cases c₀
  simp_all [bodyPostS, results, Tryd.results52]
  first | exact Ext.refl _ | skip
set_option maxHeartbeats 1000000 in
theorem catchR_fault {p q : Nat} {w : World} {z : Int} {L : List Value} {v : Value} (h1 : Cb w p 28 L) (h2 : Cb w q 30 [v]) (hne : p ≠ q) (lh : L.length = 103) :
    CallsD Tryd.prog 52 #[.pointer (some ⟨p, 0, none⟩), .pointer (some ⟨q, 0, none⟩)] (.panicking [faultR z]) w fun e u' w' => e = .returned (.tuple #[]) ∧ u' = .panicking [{ faultR z with recovered := true }] ∧ Cb w' p 28 zRC ∧ Cb w' q 30 [.int .i64 z] ∧ ∀ B, B ≤ p → B ≤ q → Below B w w' := by
  have hbz := Lib.hid report_built0
  have L_hz := zRC_len
  have O_hz := Lib.hid zRC_one
  generalize zRC = hz at *
  have S_hz : hz.toArray.size = 103 := by rw [List.size_toArray, L_hz]
  have S_hd : L.toArray.size = 103 := by rw [List.size_toArray, lh]
  have EO := Lib.hid (rpErrnoOf_calls (w := w) (n := z))
  replace h1 := Lib.hid h1
  replace h2 := Lib.hid h2
  refine callsD_of_wpS Tryd.func52 rfl fun c₀ cs hu => ?_
  apply wpS_seq
  apply wpS_region
  simp [wpOpsS, go_sem, recoverD, hu, faultR, Tryd.ntmps52, Exit.thenS]
  rw [show (#[Value.pointer (some ⟨p, 0, none⟩), Value.pointer (some ⟨q, 0, none⟩)] ++ ((Array.replicate 7 undef).setIfInBounds 1 (Value.iface 30 (.int .i64 z))).setIfInBounds 0 (Value.iface 30 (.int .i64 z))) = #[Value.pointer (some ⟨p, 0, none⟩), Value.pointer (some ⟨q, 0, none⟩), Value.iface 30 (.int .i64 z), Value.iface 30 (.int .i64 z), undef, undef, undef, undef, undef] from rfl]
  refine wpS_of_wp ?_
  go_wp2_with (refine wpList_build_as rfl _ _ rfl hz.toArray (by simp only [List.map_toArray, List.map_nil]; exact hbz.out) ?_; go_frame)
  refine EO.out.mono ?_
  rintro e w1 ⟨rfl, e1⟩
  have k1 := Lib.hid (h1.out.ext e1)
  have q1 := (h2.out.ext e1).row (r := p) (C := hz.toArray) (fun q_ => hne q_.symm)
  have c1 := q1.cell (j := 0) rfl
  have z1 := q1.frozen 0
  have f1 : Hid (Cb ((w1.setRow p hz.toArray).setCell ⟨q, 0, none⟩ (.int .i64 z)) p 28 hz ∧ Cb ((w1.setRow p hz.toArray).setCell ⟨q, 0, none⟩ (.int .i64 z)) q 30 [.int .i64 z]) :=
    ⟨(grown_setCell8.block p (by simpa using heap_lt k1.out) (fun q_ => hne (Option.some.inj q_))).trans (setRow_heap _ _ _ _ _ _ k1.out), q1.setCell⟩
  have f2 : Hid (∀ B, B ≤ p → B ≤ q → Below B w ((w1.setRow p hz.toArray).setCell ⟨q, 0, none⟩ (.int .i64 z))) := fun B hp hq => Below.setCell (below_setRow (e1.mono (Nat.le_of_lt (Nat.lt_of_le_of_lt hp (heap_lt h1.out)))) hp _) hq _
  clear EO e1 h1 h2 q1
  go_wp2_with (refine wpList_store_row rfl 28 _ _ rfl p hz.toArray rfl rfl 28 L.toArray k1.out (by rw [S_hz]; rfl) (by rw [S_hz, S_hd]) O_hz.out ?_; simp only [Act.put])
  have F : Hid (Cb ((w1.setRow p hz.toArray).setCell ⟨q, 0, none⟩ (.int .i64 z)) p 28 hz ∧ Cb ((w1.setRow p hz.toArray).setCell ⟨q, 0, none⟩ (.int .i64 z)) q 30 [.int .i64 z] ∧ ∀ B, B ≤ p → B ≤ q → Below B w ((w1.setRow p hz.toArray).setCell ⟨q, 0, none⟩ (.int .i64 z))) := ⟨f1.out.1, f1.out.2, f2.out⟩
  clear f1 f2 c1 z1
  generalize (w1.setRow p hz.toArray).setCell ⟨q, 0, none⟩ (.int .i64 z) = WF at *
  simp [bodyPostS, results, Tryd.results52]
  exact F.out
/-- Bytes that lie from block B on. -/
def BsG (B : Nat) (w : World) (A : Option Addr) (n c : Nat) (xs : List UInt8) : Prop := Bs w A n c xs ∧ (0 < n → ∀ a, A = some a → B ≤ a.block)
theorem BsG.stay {B : Nat} {w w' : World} {A : Option Addr} {n c : Nat} {xs : List UInt8} (h : BsG B w A n c xs) (hs : w.heap.size ≤ w'.heap.size) (k : ∀ i, B ≤ i → i < w.heap.size → w'.heap[i]? = w.heap[i]?) : BsG B w' A n c xs :=
  ⟨⟨h.1.1, h.1.2.1, h.1.2.2.1, fun h0 => by
    obtain ⟨b, off, hA, hb, hc⟩ := h.1.2.2.2 h0
    have hB := h.2 h0 _ hA
    exact ⟨b, off, hA, by omega, fun j hj => (World.cell?_of_block (k b hB hb)).trans (hc j hj)⟩⟩, h.2⟩
theorem OwnG.head {B : Nat} {w : World} {D : Option Addr} {n c : Nat} {l : List (List UInt8)} (h : OwnG B w D n c l) (h0 : 0 < n) : ∃ g, D = some ⟨g, 0, none⟩ ∧ B ≤ g ∧ g < w.heap.size ∧ ∀ j, j < n → ∃ A' n' c', w.cell? ⟨g, j, none⟩ = some (.slice A' n' c') ∧ BsG B w A' n' c' (l.getD j []) := by
  obtain ⟨vs, h1, h2, h3⟩ := h
  rcases h1.2 with ⟨hv, hn⟩ | ⟨g, cap, cur, hv, hb, hg, hnc, hcm, hcs, htk⟩
  · omega
  · injection hv with q1 q2 q3
    subst q1 q3
    refine ⟨g, rfl, hb, ?_, fun j hj => ?_⟩
    · rcases Nat.lt_or_ge g w.heap.size with h | h
      · exact h
      · rw [Array.getElem?_eq_none h] at hg; cases hg
    · obtain ⟨A', n', c', e1, e2, e3⟩ := h3 j hj
      refine ⟨A', n', c', ?_, e2, fun h0 a ha => (e3 h0 a ha).2⟩
      have e : vs[j]? = cur[j]? := by rw [← htk, List.getElem?_take, if_pos (by omega), Array.getElem?_toList]
      rw [e1] at e
      simp [World.cell?, hg, ← e]
/-- Reading: the report in block p, the number in p + 1, the rows in block g. -/
structure Rr (w W : World) (p g : Nat) (V : List (Option Addr × Nat × Nat)) (l : List (List UInt8)) (L : List Value) : Prop where
  rp : Cb W p 28 L
  er : Cb W (p + 1) 30 [.int .i64 0]
  gp : p + 2 ≤ g
  gl : g < W.heap.size
  rows : ∀ (j : Nat) (v : Option Addr × Nat × Nat), V[j]? = some v → W.cell? ⟨g, j, none⟩ = some (.slice v.1 v.2.1 v.2.2) ∧ BsG (p + 2) W v.1 v.2.1 v.2.2 (l.getD j [])
  new : w.heap.size ≤ p
  ext : Ext w W
section
variable {w W W' : World} {p g : Nat} {V : List (Option Addr × Nat × Nat)} {l : List (List UInt8)} {L L' : List Value}
theorem Rr.step (h : Rr w W p g V l L) (hs : W.heap.size ≤ W'.heap.size) (k : ∀ i, p + 2 ≤ i → i < W.heap.size → W'.heap[i]? = W.heap[i]?) (h1 : Cb W' p 28 L') (h2 : W'.heap[p + 1]? = W.heap[p + 1]?) (x : Ext w W') : Rr w W' p g V l L' :=
  ⟨h1, h2.trans h.er, h.gp, Nat.lt_of_lt_of_le h.gl hs, fun j v hv => ⟨(World.cell?_of_block (k g h.gp h.gl)).trans (h.rows j v hv).1, (h.rows j v hv).2.stay hs k⟩, h.new, x⟩
theorem Rr.onto (h : Rr w W p g V l L) (x : Ext W W') : Rr w W' p g V l L := h.step x.size (fun i _ hi => x.block i hi) (h.rp.ext x) (x.block _ h.er.lt) (h.ext.trans x)
theorem Rr.grown (h : Rr w W p g V l L) (t : W.grownBy W' (some p)) (h1 : Cb W' p 28 L') : Rr w W' p g V l L' :=
  h.step t.size (fun i h1 hi => t.block i hi (fun z => by have := Option.some.inj z; omega)) h1 (t.block _ h.er.lt (fun z => by have := Option.some.inj z; omega)) (by
    have hn := h.new
    exact Below.trans h.ext ⟨t.os, t.tape, t.output, t.size, fun i hi => t.block i (Nat.lt_of_lt_of_le hi h.ext.size) (fun z => by have := Option.some.inj z; omega)⟩)
theorem Rr.cell (h : Rr w W p g V l L) {j : Nat} {v : Value} : Rr w (W.setCell ⟨p, j, none⟩ v) p g V l (L.set j v) := h.grown grown_setCell8 h.rp.setCell
theorem Rr.row (h : Rr w W p g V l L) : Rr w (W.setRow p L'.toArray) p g V l L' := h.grown ⟨rfl, rfl, rfl, by simp, fun i _ hn => setRow_other _ _ _ _ (fun z => hn (by rw [z]))⟩ h.rp.set
theorem Rr.put (h : Rr w W p g V l L) {a y z q : List Value} {off : Nat} (hL : L = a ++ (y ++ q)) (hp : a.length = off) (hl : y.length = z.length) : Rr w (W.setCells p off z) p g V l (a ++ (z ++ q)) := h.grown (grown_setCells) (h.rp.put hL hp hl)
end
end Go.Proofs.YtmnohmhhmaeljaaDoor
end

section
/-
  The document's OfHigh.
-/
namespace Go.Proofs.YtmnohmhhmaeljaaDoor
open Go.ChangeShapes Go.WideShapes Go.ChangeAt Go.RowKit Go.Deep

/-- The number of bytes, the highest first, one by one. -/
def ofHighAt (xs : List UInt8) : Nat → Nat
  | 0 => 0
  | k + 1 => ofHighAt xs k * 256 + bt xs k
theorem ofHighAt_lt (xs : List UInt8) : ∀ k, ofHighAt xs k < 256 ^ k
  | 0 => by simp [ofHighAt]
  | k + 1 => by
    have := ofHighAt_lt xs k
    have := bt_lt xs k
    rw [ofHighAt, Nat.pow_succ]
    omega
theorem ofHighAt_eq {xs : List UInt8} : ∀ {k : Nat}, k ≤ xs.length → ofHighAt xs k = ofLowL (xs.take k).reverse
  | 0, _ => by simp [ofHighAt, ofLowL]
  | k + 1, h => by
    rw [ofHighAt, ofHighAt_eq (by omega), List.take_succ_eq_append_getElem (by omega), List.reverse_append]
    simp [ofLowL, bt, List.getD, show k < xs.length by omega]
    omega

set_option maxHeartbeats 400000 in
theorem refOfHigh_calls {A : Option Addr} {n c : Nat} {m : Nat} {xs : List UInt8} {w : World} (h : Bs w A n c xs) (hm8 : m ≤ 8) (hmn : m ≤ n) (hM : m = n ∨ m = 8) :
    Calls Tryd.prog 61 #[.slice A n c] w fun e w' => e = .returned (.int .u64 (ofLowL (xs.take m).reverse : Int)) ∧ w' = w := by
  have h1 := h.le
  have h2 := h.cap
  have hf : Hid (ofHighAt xs m = ofLowL (xs.take m).reverse) := ofHighAt_eq (by rw [h.len]; exact hmn)
  go_enter Tryd.func61, Tryd.ntmps61
  go_wp2
  go_loop [3, 4] (fun x i => ∃ k : Nat, k ≤ m ∧ i = .int .i64 k ∧ x = .int .u64 (ofHighAt xs k : Int)) (fun _ i => m - (intOf i).toNat)
  case atStart => exact ⟨0, Nat.zero_le _, rfl, rfl⟩
  case round =>
    obtain ⟨k, hk, rfl, rfl⟩ := hrel
    by_cases hlt : k < m
    · obtain ⟨b, off, rfl, hb, hc⟩ := h.pos (by omega)
      have g1 := hc k (by omega)
      have hbt := bt_lt xs k
      have hlt2 : ofHighAt xs k < 72057594037927936 := Nat.lt_of_lt_of_le (ofHighAt_lt xs k) (Nat.pow_le_pow_right (by omega) (show k ≤ 7 by omega))
      have hsucc : Hid ((ofHighAt xs (k + 1) : Int) = (ofHighAt xs k : Int) * 256 + (bt xs k : Int)) := by unfold Hid; rw [ofHighAt]; omega
      have t1 : (k : Int) < 8 := by omega
      have t2 : (k : Int) < (n : Int) := by omega
      clear hc hM
      go_wp2
      go_round
      case rel => exact ⟨k + 1, by omega, by go_num, congrArg (Value.int .u64) hsucc.out.symm⟩
      case measure => simp [intOf]; omega
    · obtain rfl : k = m := by omega
      rcases hM with rfl | rfl
      · go_wp2
        go_ret
        exact ⟨ret_int (by rw [hf.out]), rfl⟩
      · by_cases q : 8 < n
        · go_wp2
          go_ret
          exact ⟨ret_int (by rw [hf.out]), rfl⟩
        · obtain rfl : n = 8 := by omega
          go_wp2
          go_ret
          exact ⟨ret_int (by rw [hf.out]), rfl⟩
end Go.Proofs.YtmnohmhhmaeljaaDoor
end

section
/-
  The document's Part (over JoinB).
-/
namespace Go.Proofs.YtmnohmhhmaeljaaDoor
open Go.ChangeShapes Go.WideShapes Go.ChangeAt Go.RowKit Go.Deep

set_option maxHeartbeats 2000000 in
theorem refPart_calls {A : Option Addr} {n c : Nat} {xs : List UInt8} {w : World} (h : Bs w A n c xs) (hm : n ≤ 1000000) :
    Calls Tryd.prog 59 #[.slice A n c] w (RetPartG (partL xs) w) := by
  go_enter Tryd.func59, Tryd.ntmps59
  go_wp2
  go_loopw [0, 4] (fun x v wr => PartAt w wr xs n x v) (fun x _ _ => lenOf x)
  case atStart => exact ⟨n, c, 0, 0, A, none, xs, [], rfl, rfl, h, OwnG.nil _ _, Ext.refl w, by simp, by omega⟩
  case round =>
    obtain ⟨q, cb, k, cc, Ab, D, ys, l, rfl, rfl, hb, ho, hE, hp, hk⟩ := hrel
    have HP := Lib.hid hp
    clear hp h
    have h1 := hb.le
    have h2 := hb.cap
    have hlen := hb.len
    have HL := Lib.hid hlen
    clear hlen
    have hsz := hE.size
    rcases Nat.eq_zero_or_pos q with rfl | hq0
    · go_wp2
      go_ret2
      exact RetPartG.good (by rw [HP.out, hb.zero, partL_nil]; simp) ho hE
    · by_cases hq4 : q < 4
      · go_wp2
        go_ret2
        exact RetPartG.bad (by rw [HP.out, partL_short (by rw [HL.out]; exact hq0) (by rw [HL.out]; exact hq4)]; rfl) hE
      · obtain ⟨m, hmm⟩ : ∃ m, Hid (ofLowL (ys.take 4).reverse = m) := ⟨_, rfl⟩
        have hof := refOfHigh_calls (m := 4) ((hb.ext hE).take (show 4 ≤ q by omega)) (by omega) (by omega) (.inl rfl)
        rw [List.take_take, Nat.min_self, hmm.out] at hof
        have HOF := Lib.hid hof
        have hm32 : m < 4294967296 := by
          have := ofLowL_lt (ys.take 4).reverse
          rw [hmm.out, List.length_reverse, List.length_take, HL.out, Nat.min_eq_left (by omega)] at this
          exact this
        have h4c : 4 ≤ cb := by omega
        have h4d : decide ((q : Int) < 4) = false := by simp; omega
        clear hof
        by_cases hbig : q - 4 < m
        · go_wp2_with (first
            | (go_at_call 61; refine HOF.out.mono ?_; rintro e w1 ⟨rfl, rfl⟩))
          go_ret2
          exact RetPartG.bad (by rw [HP.out, partL_long (by rw [HL.out]; omega) (by rw [hmm.out, List.length_drop, HL.out]; exact hbig)]; rfl) hE
        · have hmq : m ≤ q - 4 := by omega
          have hmc : m ≤ cb - 4 := by omega
          go_wp2_with (first
            | (go_at_call 61; refine HOF.out.mono ?_; rintro e w1 ⟨rfl, rfl⟩)
            | ((with_reducible refine wpList_cut2 rfl (x := .tmp 29) (lo := .const (.int .i64 4)) (hi := .tmp 30) (k := 4) (h := 4 + m) rfl rfl rfl rfl (by omega) (by omega) (by omega) (by omega) ?_); intro A4 hcut4; have hb4 := hcut4 _ _ hb; clear hcut4; simp only [Nat.add_sub_cancel_left] at hb4; simp only [Act.put, List.setIfInBounds_toArray, List.set_cons_zero, List.set_cons_succ, Nat.add_sub_cancel_left])
            | (at_builtin; (with_reducible refine wpList_append_bs rfl (B := w1.heap.size) (s := .tmp 28) (x := .tmp 31) rfl rfl rfl (Own.empty w1 _ (Nat.le_refl _)) (hb4.ext (hE.alloc _)) (by omega) (by simp) ?_); intro A5 c5 w2 ho2 hg2 hbl2; simp only [Nat.zero_add, List.nil_append] at ho2; have E2 : Ext w1 w2 := ((Ext.refl w1).alloc _).trans' hbl2)
            | (at_builtin; (with_reducible refine wpList_append_rg rfl (B := w.heap.size) (s := .tmp 27) (x := .tmp 33) rfl rfl rfl (ho.ext (E2.alloc _)) (cell_new _ _ _) (ho2.bs.ext ((Ext.refl _).alloc _)) (far_of_newG ho2 ho hE.size) (by omega) ((hE.trans E2).alloc _).size ?_); intro D3 c3 w3 ho3 hbl3)
            | ((with_reducible refine wpList_cut rfl (x := .tmp 35) (lo := .tmp 36) (k := 4 + m) rfl rfl rfl (by omega) (by omega) (by omega) ?_); intro A6 hcut6; have hb6 := hcut6 _ _ hb; clear hcut6))
          go_roundw
          case rel =>
            refine ⟨_, _, _, _, A6, D3, _, _, rfl, rfl, hb6, ho3, ((hE.trans E2).alloc _).trans' hbl3, ?_, by omega⟩
            have hn := part_next HP.out (by rw [HL.out]; omega) hmm.out (by rw [List.length_drop, HL.out]; exact hmq)
            rw [List.drop_drop] at hn
            rw [List.drop_take, Nat.add_sub_cancel_left]
            exact hn
          case measure => simp [lenOf]; omega
end Go.Proofs.YtmnohmhhmaeljaaDoor
end

section
/-
  Parts of bytes: a key that is half copied, numbers of bytes, slices of slices.
-/
namespace Go.Proofs.YtmnohmhhmaeljaaDoor
open Go.ChangeShapes Go.WideShapes Go.ChangeAt Go.RowKit Go.Deep
set_option maxRecDepth 100000

/-- The first k of 32 bytes are there, behind them are noughts. -/
def partK (xs : List UInt8) (k : Nat) : List UInt8 := xs.take k ++ List.replicate (32 - k) 0
theorem partK_len {xs : List UInt8} {k : Nat} (h : 32 ≤ xs.length) (hk : k ≤ 32) : (partK xs k).length = 32 := by simp [partK]; omega
theorem partK_step {xs : List UInt8} {k : Nat} (h : 32 ≤ xs.length) (hk : k < 32) : (cellsOf (partK xs k)).set k (.int .u8 (bt xs k : Int)) = cellsOf (partK xs (k + 1)) := by
  have e1 : partK xs (k + 1) = (partK xs k).set k (xs.getD k 0) := by
    unfold partK
    rw [List.set_append_right _ _ (by simp; omega), List.take_succ_eq_append_getElem (by omega), show 32 - k = (32 - (k + 1)) + 1 by omega, List.replicate_succ]
    simp [show min k xs.length = k by omega, List.getD, show k < xs.length by omega]
    rw [List.take_succ_eq_append_getElem (by omega), List.append_assoc]
    rfl
  rw [e1, cellsOf_map, cellsOf_map, List.map_set]
  rfl
theorem partK_zero (xs : List UInt8) : partK xs 0 = List.replicate 32 0 := rfl
theorem partK_full (xs : List UInt8) : partK xs 32 = xs.take 32 := by simp [partK]
theorem Bs.sub {w : World} {b off n c : Nat} {xs : List UInt8} (h : Bs w (some ⟨b, off, none⟩) n c xs) {i k : Nat} (hk : i + k ≤ n) : Bs w (some ⟨b, off + i, none⟩) k (c - i) ((xs.drop i).take k) :=
  ⟨by rw [List.length_take, List.length_drop, h.1]; omega, by have := h.2.1; omega, by have := h.2.2.1; omega, fun h0 => by
    obtain ⟨b', off', hA, hb, hc⟩ := h.2.2.2 (by omega)
    cases hA
    refine ⟨b, off + i, rfl, hb, fun j hj => ?_⟩
    rw [bt_take hj, bt_drop, Nat.add_assoc]
    exact hc (i + j) (by omega)⟩
theorem numN_bt {xs : List UInt8} (h : 0 < xs.length) : numN xs 1 = bt xs 0 := by
  match xs, h with
  | x :: r, _ => simp [numN, ofLowL, bt]
theorem Bs.from {w : World} {b off n c : Nat} {xs : List UInt8} (h : Bs w (some ⟨b, off, none⟩) n c xs) {i : Nat} (hk : i ≤ n) : Bs w (some ⟨b, off + i, none⟩) (n - i) (c - i) (xs.drop i) := by
  have := h.sub (i := i) (k := n - i) (by omega)
  rwa [List.take_of_length_le (by rw [List.length_drop, h.1]; omega)] at this
theorem numN1_lt (xs : List UInt8) : numN xs 1 < 256 := by
  have h := ofLowL_lt (xs.take 1).reverse
  have hl : (xs.take 1).reverse.length ≤ 1 := by rw [List.length_reverse, List.length_take]; omega
  have h2 : 256 ^ (xs.take 1).reverse.length ≤ 256 ^ 1 := Nat.pow_le_pow_right (by omega) hl
  unfold numN
  omega
theorem numN2_lt (xs : List UInt8) : numN xs 2 < 65536 := by
  have h := ofLowL_lt (xs.take 2).reverse
  have hl : (xs.take 2).reverse.length ≤ 2 := by rw [List.length_reverse, List.length_take]; omega
  have h2 : 256 ^ (xs.take 2).reverse.length ≤ 256 ^ 2 := Nat.pow_le_pow_right (by omega) hl
  unfold numN
  omega
theorem numN_lt {xs : List UInt8} {k : Nat} (hk : k ≤ 4) : numN xs k < 4294967296 := by
  have h := ofLowL_lt (xs.take k).reverse
  have hl : (xs.take k).reverse.length ≤ 4 := by rw [List.length_reverse, List.length_take]; omega
  have h2 : 256 ^ (xs.take k).reverse.length ≤ 256 ^ 4 := Nat.pow_le_pow_right (by omega) hl
  unfold numN
  omega
end Go.Proofs.YtmnohmhhmaeljaaDoor
end

section
/-
  The document's bytes of a stamp.
-/
namespace Go.Proofs.YtmnohmhhmaeljaaDoor
open Go.ChangeShapes Go.WideShapes Go.ChangeAt Go.RowKit Go.Deep
set_option maxRecDepth 100000

theorem two16 {W : World} {f t : Nat} (hf : f ≤ 7) (ht : t ≤ 7) : Bs (W.alloc (.cells #[.int .u8 (f : Int), .int .u8 (t : Int)] 5)) (some ⟨W.heap.size, 0, none⟩) 2 2 (hiB f 1 ++ hiB t 1) := by
  have e : cellsOf (hiB f 1 ++ hiB t 1) = [.int .u8 (f : Int), .int .u8 (t : Int)] := by
    rw [hiB_one, hiB_one]
    have h1 : (UInt8.ofNat f).toNat = f := by simp; omega
    have h2 : (UInt8.ofNat t).toNat = t := by simp; omega
    rw [show cellsOf ([UInt8.ofNat f] ++ [UInt8.ofNat t]) = [Value.int .u8 ((UInt8.ofNat f).toNat : Int), .int .u8 ((UInt8.ofNat t).toNat : Int)] from rfl, h1, h2]
  have k : Cb (W.alloc (.cells #[.int .u8 (f : Int), .int .u8 (t : Int)] 5)) W.heap.size 5 [.int .u8 (f : Int), .int .u8 (t : Int)] := Cb.new _ _ _
  exact k.bs (p := []) (q := []) (by rw [e]; rfl) rfl (by simp [hiB_len]) (by omega)
set_option maxHeartbeats 8000000 in
theorem rbytes16_calls {w : World} {s : Sm} (ok : s.ok) :
    Calls Tryd.prog 49 #[.agg s.C.toArray] w fun e w' => ∃ A n c, e = .returned (.tuple #[.slice A n c, .int .i64 (bytesE s)]) ∧ Own w.heap.size w' A n c (bytesS s) ∧ Ext w w' := by
  have VA : Hid (∀ (W : World), Calls Tryd.prog 93 #[.agg s.C.toArray] W fun e w' => e = .returned (.bool s.valid) ∧ Ext W w') := fun W => right16_calls
  obtain ⟨R0, R1⟩ := bytes_facts (s := s)
  replace R0 := Lib.hid R0
  replace R1 := Lib.hid R1
  have L_s := Sm.C_len ok
  have s0 : Hid (s.C[0]? = some (.int .i64 s.ep)) := rfl
  have SP := Lib.hid (fun _ : Unit => st_parts (ep := s.ep) (f := s.f) (t := s.t) (tm := s.tm) (tg := s.tg) ok.1)
  have S_s : s.C.toArray.size = 68 := by rw [List.size_toArray, L_s]
  obtain ⟨r, hr⟩ : ∃ r, r = w.heap.size := ⟨_, rfl⟩
  have B0 : Hid (Cb (w.alloc (.cells s.C.toArray 26)) r 26 s.C ∧ Ext w (w.alloc (.cells s.C.toArray 26))) := by rw [hr]; exact ⟨Cb.new _ _ _, (Ext.refl w).alloc _⟩
  obtain ⟨SC, hSC⟩ : ∃ SC, SC = s.C := ⟨_, rfl⟩
  rw [← hSC] at VA L_s s0 S_s B0 ⊢
  replace hSC := Lib.hid hSC
  obtain ⟨RE, hRE⟩ : ∃ r, r = bytesE s := ⟨_, rfl⟩
  obtain ⟨RS, hRS⟩ : ∃ r, r = bytesS s := ⟨_, rfl⟩
  rw [← hRE, ← hRS] at R0 R1 ⊢
  clear hRE hRS
  go_enter Tryd.func49, Tryd.ntmps49
  go_upto_region 1 with fail
  refine wp_gen (fun W => Cb W r 26 SC ∧ Ext w W) B0.out ?_
  rw [← hr]
  have wr : w.heap.size ≤ r := Nat.le_of_eq hr.symm
  clear B0
  replace hr := Lib.hid hr
  rintro w0 ⟨k0, x0⟩
  replace k0 := Lib.hid k0
  replace x0 := Lib.hid x0
  go_wp2_with (first | ((with_reducible refine wpList_load_rowW (o := ⟨some 5, _, _, _, _, _⟩) ?_ 26 _ rfl r ?_ 26 SC.toArray (0, 0) _ ?_ Tryd.underlying26 ?_ ?_ ?_); (· rfl); (· rfl); (· exact k0.out); (· rfl); (· rw [S_s]; rfl); go_frame))
  refine (VA.out _).mono ?_
  rintro e w1 ⟨rfl, x1⟩
  have k1 := Lib.hid (k0.out.ext x1)
  replace x1 := Lib.hid (x0.out.trans x1)
  clear k0 VA x0
  rcases h1 : s.valid with _ | _
  · have z1 := Lib.hid (R0.out h1)
    clear R0 R1
    go_wp2_with fail
    go_ret2
    exact ⟨none, 0, 0, by rw [z1.out.2]; rfl, by rw [z1.out.1]; exact Own.nil _ _, x1.out⟩
  replace R1 := R1.out h1
  obtain ⟨ep, fn, tn, tm, hs, hep, hf7, ht7, htm⟩ := Sm.nat h1
  obtain ⟨lc, lg⟩ := ok
  clear R0 h1
  generalize s.cm = cm at *
  generalize s.tg = tgv at *
  subst hs
  have SP1 : Hid (SC = ([.int .i64 (ep : Int), .int .i64 (fn : Int), .int .i64 (tn : Int), .int .i64 (tm : Int)] ++ cellsOf cm) ++ (cellsOf tgv ++ []) ∧ ([Value.int .i64 (ep : Int), .int .i64 (fn : Int), .int .i64 (tn : Int), .int .i64 (tm : Int)] ++ cellsOf cm).length = 36) := by
    rw [hSC.out]; exact Lib.hid (SP.out ()).2
  clear SP hSC
  simp only [Int.toNat_natCast] at R1
  replace R1 := Lib.hid R1
  have H4 : Hid (∀ (W : World), Calls Tryd.prog 51 #[.int .u64 (ep : Int), .int .i64 4] W (RetOwn (hiB ep 4) W)) := fun W => refHighO_calls (by omega) (by omega) (by omega) (by omega) rfl
  have u1 : IntKind.u64.wrap (ep : Int) = (ep : Int) := IntWalk.u64_in _ (by omega)
  have H5 : Hid (∀ (W : World), Calls Tryd.prog 51 #[.int .u64 (tm : Int), .int .i64 4] W (RetOwn (hiB tm 4) W)) := fun W => refHighO_calls (by omega) (by omega) (by omega) (by omega) rfl
  have u5 : IntKind.u64.wrap (tm : Int) = (tm : Int) := IntWalk.u64_in _ (by omega)
  have v1 : IntKind.u8.wrap (fn : Int) = (fn : Int) := IntWalk.u8_in _ (by omega)
  have v2 : IntKind.u8.wrap (tn : Int) = (tn : Int) := IntWalk.u8_in _ (by omega)
  have s1 : Hid (SC[1]? = some (.int .i64 (fn : Int))) := by rw [SP1.out.1]; exact Lib.hid rfl
  have s2 : Hid (SC[2]? = some (.int .i64 (tn : Int))) := by rw [SP1.out.1]; exact Lib.hid rfl
  have s3 : Hid (SC[3]? = some (.int .i64 (tm : Int))) := by rw [SP1.out.1]; exact Lib.hid rfl
  have SP0 : Hid (SC = [.int .i64 (ep : Int), .int .i64 (fn : Int), .int .i64 (tn : Int), .int .i64 (tm : Int)] ++ (cellsOf cm ++ (cellsOf tgv ++ []))) := Lib.hid (by rw [SP1.out.1]; simp)
  have TWO : Hid (∀ W : World, Bs (W.alloc (.cells #[.int .u8 (fn : Int), .int .u8 (tn : Int)] 5)) (some ⟨W.heap.size, 0, none⟩) 2 2 (hiB fn 1 ++ hiB tn 1)) := fun W => two16 hf7 ht7
  have RR : Hid (((((hiB ep 4 ++ (hiB fn 1 ++ hiB tn 1)) ++ hiB tm 4) ++ cm) ++ tgv) = RS) := Lib.hid (by rw [R1.out.1]; simp [toldL])
  have l4 := hiB_len ep 4
  have l5 := hiB_len tm 4
  generalize hiB ep 4 = b4 at *
  generalize hiB tm 4 = b5 at *
  generalize hiB fn 1 ++ hiB tn 1 = b2 at *
  have g0 := k1.out.cell s0.out
  have z1 : r + 1 ≤ w1.heap.size := k1.out.lt
  clear s0 hf7 ht7 htm hep L_s
  go_wp2_with fail
  refine (H4.out _).mono ?_
  rintro e w2 ⟨A2, n2, m2, rfl, o2, e2⟩
  obtain rfl : n2 = 4 := by rw [← o2.len, l4]
  replace o2 := Lib.hid (o2.mono z1)
  have k2 := Lib.hid (k1.out.ext e2)
  have x2 := Lib.hid (x1.out.trans e2)
  clear g0 k1 x1 e2 H4 z1
  go_upto_region 4 with fail
  refine wp_gen (fun W => Own (r + 1) W A2 4 m2 b4 ∧ Cb W r 26 SC ∧ Ext w W) ⟨o2.out, k2.out, x2.out⟩ ?_
  clear o2 k2 x2
  rintro w3 ⟨o3, k3, x3⟩
  have g1 := k3.cell s1.out
  have g2 := k3.cell s2.out
  have o4 := Lib.hid (o3.alloc (.cells #[.int .u8 (fn : Int), .int .u8 (tn : Int)] 5))
  have t4 := Lib.hid (TWO.out w3)
  have k4 := Lib.hid (k3.ext ((Ext.refl w3).alloc (.cells #[.int .u8 (fn : Int), .int .u8 (tn : Int)] 5)))
  have x4 := Lib.hid (x3.trans ((Ext.refl w3).alloc (.cells #[.int .u8 (fn : Int), .int .u8 (tn : Int)] 5)))
  have z4 : r + 1 ≤ (w3.alloc (.cells #[.int .u8 (fn : Int), .int .u8 (tn : Int)] 5)).heap.size := k4.out.lt
  clear o3 k3 x3 TWO s1 s2
  go_upto_region 5 with (at_builtin; (with_reducible refine wpList_append_bs rfl (B := r + 1) (s := .tmp 12) (x := .tmp 19) rfl rfl rfl o4.out t4.out (by omega) z4 ?_); intro A6 m6 w6 o6 g6 d6; replace o6 := Lib.hid o6; clear g6; replace d6 := Lib.hid d6; go_frame)
  refine wp_gen (fun W => Own (r + 1) W A6 (4 + 2) m6 (b4 ++ b2) ∧ Cb W r 26 SC ∧ Ext w W) ⟨o6.out, k4.out.kept d6.out (by omega), Below.trans x4.out (d6.out.mono (by omega))⟩ ?_
  clear o6 d6 o4 t4 k4 x4 z4 g1 g2
  rintro w7 ⟨o7, k7, x7⟩
  have g3 := k7.cell s3.out
  replace o7 := Lib.hid o7
  replace k7 := Lib.hid k7
  replace x7 := Lib.hid x7
  clear s3
  go_wp2_with fail
  refine (H5.out _).mono ?_
  rintro e w8 ⟨A8, n8, m8, rfl, o8, e8⟩
  obtain rfl : n8 = 4 := by rw [← o8.len, l5]
  have o9 := Lib.hid (o7.out.ext e8)
  replace o8 := Lib.hid o8.bs
  have k8 := Lib.hid (k7.out.ext e8)
  have x8 := Lib.hid (x7.out.trans e8)
  have z8 : r + 1 ≤ w8.heap.size := k8.out.lt
  clear g3 o7 k7 x7 e8 H5
  go_upto_region 6 with (at_builtin; (with_reducible refine wpList_append_bs rfl (B := r + 1) (s := .tmp 21) (x := .tmp 25) rfl rfl rfl o9.out o8.out (by omega) z8 ?_); intro A1 c1 v1 p1 q1 d1; replace p1 := Lib.hid p1; clear q1; replace d1 := Lib.hid d1; go_frame)
  refine wp_gen (fun W => Own (r + 1) W A1 (4 + 2 + 4) c1 ((b4 ++ b2) ++ b5) ∧ Cb W r 26 SC ∧ Ext w W) ⟨p1.out, k8.out.kept d1.out (by omega), Below.trans x8.out (d1.out.mono (by omega))⟩ ?_
  clear p1 d1 o9 o8 k8 x8 z8
  rintro y1 ⟨o1, k1, x1⟩
  have bc := Lib.hid (k1.bs SP0.out rfl lc (by omega))
  have zc : r + 1 ≤ y1.heap.size := k1.lt
  replace o1 := Lib.hid o1
  replace k1 := Lib.hid k1
  replace x1 := Lib.hid x1
  go_upto_region 7 with (at_builtin; (with_reducible refine wpList_append_bs rfl (B := r + 1) (s := .tmp 27) (x := .tmp 29) rfl rfl rfl o1.out bc.out (by omega) zc ?_); intro A2' c2 v2' p2 q2 d2; replace p2 := Lib.hid p2; clear q2; replace d2 := Lib.hid d2; go_frame)
  refine wp_gen (fun W => Own (r + 1) W A2' (4 + 2 + 4 + 32) c2 (((b4 ++ b2) ++ b5) ++ cm) ∧ Cb W r 26 SC ∧ Ext w W) ⟨p2.out, k1.out.kept d2.out (by omega), Below.trans x1.out (d2.out.mono (by omega))⟩ ?_
  clear p2 d2 o1 bc k1 x1 zc
  rintro y2 ⟨o2, k2, x2⟩
  have bt_ := Lib.hid (k2.bs SP1.out.1 SP1.out.2 lg (by omega))
  have zt : r + 1 ≤ y2.heap.size := k2.lt
  replace o2 := Lib.hid o2
  replace x2 := Lib.hid x2
  clear k2
  go_wp2_with (at_builtin; (with_reducible refine wpList_append_bs rfl (B := r + 1) (s := .tmp 31) (x := .tmp 33) rfl rfl rfl o2.out bt_.out (by omega) zt ?_); intro A3 c3 v3 p3 q3 d3; replace p3 := Lib.hid p3; clear q3; replace d3 := Lib.hid d3; go_frame)
  go_ret2
  exact ⟨A3, 4 + 2 + 4 + 32 + 32, c3, by rw [R1.out.2]; rfl, by rw [← RR.out]; exact p3.out.mono (by omega), Below.trans x2.out (d3.out.mono (by omega))⟩
end Go.Proofs.YtmnohmhhmaeljaaDoor
end
