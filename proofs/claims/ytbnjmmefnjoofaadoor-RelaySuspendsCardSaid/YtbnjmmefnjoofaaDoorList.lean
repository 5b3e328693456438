/-
  mailbox.New and mailbox.List.
-/
import Derived.Test.YtbnjmmefnjoofaaDoorPut
import Derived.Deep.MidRow
namespace Go.Proofs.YtbnjmmefnjoofaaDoor
open Go.ChangeShapes Go.WideShapes Go.ChangeAt Go.RowKit Go.Deep
set_option maxRecDepth 100000

theorem new_calls {w : World} : Calls Tryd.prog 64 #[] w fun e w' => e = .returned (.pointer (some ⟨w.heap.size, 0, none⟩)) ∧ (∀ B, MB 126 73 B w' w.heap.size [] 0) ∧ Ext w w' := by
  have hbz : Tryd.prog.built 126 [] = some #[.slice none 0 0, .int .i64 0] := by kernel_rfl
  have FIN : Hid ((∀ B, MB 126 73 B (w.alloc (.cells #[.slice none 0 0, .int .i64 0] 126)) w.heap.size [] 0) ∧ Ext w (w.alloc (.cells #[.slice none 0 0, .int .i64 0] 126))) :=
    ⟨fun B => ⟨none, 0, 0, Cb.new w _ [.slice none 0 0, .int .i64 0], OwnC.nil _ _ _ _, fun x hx => by cases hx⟩, (Ext.refl w).alloc _⟩
  go_enter Tryd.func64, Tryd.ntmps64
  go_wp2_with (refine wpList_build_as rfl _ _ rfl #[.slice none 0 0, .int .i64 0] (by simp only [List.map_toArray, List.map_nil]; exact hbz) ?_; go_frame)
  go_ret
  exact ⟨rfl, FIN.out⟩

theorem madeCells_flat {Z : List Value} {s : Nat} (hs : Z.length = s) (hz : 0 < s) (n : Nat) : madeCells Z.toArray (n * s) = (List.replicate n Z).flatten.toArray := by
  have hl : (List.replicate n Z).flatten.length = n * s := by rw [flatten_len (s := s) (fun x hx => by rw [List.eq_of_mem_replicate hx]; exact hs), List.length_replicate]
  apply Array.ext
  · rw [size_madeCells, List.size_toArray, hl]
  · intro i h1 h2
    rw [size_madeCells] at h1
    have hj : i / s < n := Nat.div_lt_of_lt_mul (by rw [Nat.mul_comm]; exact h1)
    have hr := Nat.mod_lt i hz
    have e : i / s * s + i % s = i := by rw [Nat.mul_comm]; exact Nat.div_add_mod i s
    have q := flat_at (L := List.replicate n Z) (s := s) (fun x hx => by rw [List.eq_of_mem_replicate hx]; exact hs) (j := i / s) (i := i % s) (by rw [List.length_replicate]; exact hj) hr
    rw [e, List.getD_eq_getElem?_getD, List.getElem?_replicate, if_pos hj, Option.getD_some, List.getElem?_eq_getElem (by rw [hl]; exact h1), List.getElem?_eq_getElem (by rw [hs]; exact hr)] at q
    simp only [madeCells, Array.getElem_map, Array.getElem_range, List.size_toArray, hs]
    rw [getElem!_pos _ _ (by simp [hs]; exact hr)]
    simp only [List.getElem_toArray]
    exact (Option.some.inj q).symm
/-- make([]Mail, n). -/
theorem makeM (n : Nat) (hn : n ≤ 1000) (w : World) :
    (Instr.makeSlice 42 (.int .i64 (n : Int)) (.int .i64 (n : Int))).run Tryd.prog w = .ok (.slice (some ⟨w.heap.size, 0, none⟩) n n) (w.alloc (.cells (List.replicate n zM).flatten.toArray 73)) := by
  obtain ⟨i, hi, h0, h1, h2⟩ := info_parts infoM
  have hb := bytesM
  have hle : n * i.bytes ≤ 1000 * 1000000 := Nat.mul_le_mul hn (by rw [h2]; exact hb)
  have h4 : (i.bytes : Int) * (n : Int) ≤ 281474976710656 := by
    have h3 : ((n * i.bytes : Nat) : Int) ≤ 1000000000 := by omega
    rw [Int.natCast_mul, Int.mul_comm] at h3
    omega
  have := run_make (P := Tryd.prog) w 42 73 i (.agg zM.toArray) Tryd.underlying42 hi h0 .i64 .i64 (n : Int) (n : Int) (by omega) (by omega) (by first | exact h4 | omega) (by omega)
  rw [this]
  simp only [Int.toNat_natCast]
  rw [h1, show (Value.agg zM.toArray).cells = zM.toArray from rfl, madeCells_flat zM_len (by omega)]
/-- The rows of a list that is being made. -/
def rowL (L' : List Wm) (m : Nat) : List Value := (L'.map Wm.C ++ List.replicate m zM).flatten
theorem rowL_put {L' : List Wm} {m k : Nat} {y : Wm} (hl : ∀ x ∈ L', x.d.ok) (hy : y.d.ok) (hk : L'.length = k) {w : World} {r : Nat} {T : TypeId} (h : Cb w r T (rowL L' (m + 1))) : Cb (w.setCells r (k * 138) y.C) r T (rowL (L' ++ [y]) m) ∧ w.there r (k * 138) 138 := by
  have e : rowL L' (m + 1) = (L'.map Wm.C).flatten ++ (zM ++ (List.replicate m zM).flatten) := by unfold rowL; rw [List.replicate_succ, List.flatten_append, List.flatten_cons]
  have e2 : rowL (L' ++ [y]) m = (L'.map Wm.C).flatten ++ (y.C ++ (List.replicate m zM).flatten) := by unfold rowL; rw [List.map_append, List.flatten_append, List.flatten_append]; simp
  have l1 : (L'.map Wm.C).flatten.length = k * 138 := by
    rw [flatten_len (s := 138) (fun x hx => by obtain ⟨z, hz, rfl⟩ := List.mem_map.1 hx; exact z.C_len (hl z hz)), List.length_map, hk]
  refine ⟨?_, h.there (by rw [e, List.length_append, List.length_append, l1, zM_len]; omega)⟩
  rw [e2]
  exact h.put e l1 (by rw [zM_len, y.C_len hy])
/-- What List hands back. -/
def ListP (L : List Wm) (w : World) (e : Ending) (w' : World) : Prop := ∃ (q : Nat) (L' : List Wm), e = .returned (.slice (some ⟨q, 0, none⟩) L.length L.length) ∧ w.heap.size ≤ q ∧ Cb w' q 73 (L'.map Wm.C).flatten ∧ L'.map (·.d) = L.map (·.d) ∧ (∀ y ∈ L', y.d.ok ∧ BsF w.heap.size w' y.A y.d.body.length y.c y.d.body) ∧ Ext w w'
/-- The worlds of List. -/
def Lw (w wr : World) (r k n : Nat) (L : List Wm) : Prop := ∃ L', L'.length = k ∧ L'.map (·.d) = (L.take k).map (·.d) ∧ Cb wr r 73 (rowL L' (n - k)) ∧ (∀ y ∈ L', y.d.ok ∧ BsF w.heap.size wr y.A y.d.body.length y.c y.d.body) ∧ Ext w wr
theorem Lw.step {w wr w2 : World} {r k n : Nat} {L : List Wm} (h : Lw w wr r k n L) (hk : k < n) (hn : L.length = n) (e : Ext wr w2) {A : Option Addr} {c : Nat} (hr : w.heap.size ≤ r) (hx : (L[k]'(by omega)).d.ok) (hb : BsF wr.heap.size w2 A (L[k]'(by omega)).d.body.length c (L[k]'(by omega)).d.body) :
    Lw w (w2.setCells r (k * 138) (⟨(L[k]'(by omega)).d, A, c⟩ : Wm).C) r (k + 1) n L ∧ w2.there r (k * 138) 138 := by
  obtain ⟨L', h1, h2, h3, h4, h5⟩ := h
  have hlt := h3.lt
  obtain ⟨q1, q2⟩ := rowL_put (m := n - (k + 1)) (y := ⟨(L[k]'(by omega)).d, A, c⟩) (fun x hx => (h4 x hx).1) hx h1 (by rw [show n - (k + 1) + 1 = n - k by omega]; exact h3.ext e)
  have ot : ∀ (i : Nat) (cs : Array Value), w2.heap[i]? = some (Obj.cells cs 5 (0, 0)) → (w2.setCells r (k * 138) (⟨(L[k]'(by omega)).d, A, c⟩ : Wm).C).heap[i]? = some (Obj.cells cs 5 (0, 0)) := fun i cs hi => ((grown_setCells (w := w2) (g := r) (o := k * 138) (vs := (⟨(L[k]'(by omega)).d, A, c⟩ : Wm).C)).block i (heap_lt hi) (fun q => by
    have q := Option.some.inj q
    subst q
    have this : w2.heap[i]? = some (Obj.cells (rowL L' (n - k)).toArray 73 (0, 0)) := h3.ext e
    rw [hi] at this
    injection this with this
    injection this with _ this
    cases this)).trans hi
  refine ⟨⟨L' ++ [⟨(L[k]'(by omega)).d, A, c⟩], by simp [h1], ?_, q1, fun y hy => ?_, ?_⟩, q2⟩
  · rw [List.map_append, h2, List.take_succ_eq_append_getElem (by omega), List.map_append]
    rfl
  · rcases List.mem_append.1 hy with hy | hy
    · exact ⟨(h4 y hy).1, ((h4 y hy).2.ext e).keep fun i cs hi _ => ot i cs hi⟩
    · rw [List.mem_singleton.1 hy]
      exact ⟨hx, (hb.mono h5.size).keep fun i cs hi _ => ot i cs hi⟩
  · have g := grown_setCells (w := w2) (g := r) (o := k * 138) (vs := (⟨(L[k]'(by omega)).d, A, c⟩ : Wm).C)
    exact Below.trans (h5.trans e) ⟨g.os, g.tape, g.output, g.size, fun i hi => g.block i (Nat.lt_of_lt_of_le hi (h5.trans e).size) (fun q => by have := Option.some.inj q; omega)⟩
theorem Lw.start {w : World} {n : Nat} {L : List Wm} : Lw w (w.alloc (.cells (List.replicate n zM).flatten.toArray 73)) w.heap.size 0 n L := ⟨[], rfl, rfl, Cb.new _ _ _, (fun y hy => by cases hy), (Ext.refl w).alloc _⟩
theorem Lw.done {w wr : World} {r n : Nat} {L : List Wm} (h : Lw w wr r n n L) (hn : L.length = n) (hr : w.heap.size ≤ r) {e : Ending} (he : e = .returned (.slice (some ⟨r, 0, none⟩) n n)) : ListP L w e wr := by
  obtain ⟨L', h1, h2, h3, h4, h5⟩ := h
  refine ⟨r, L', by rw [he, hn], hr, ?_, ?_, h4, h5⟩
  · rw [Nat.sub_self] at h3
    simpa [rowL] using h3
  · rw [h2, ← hn, List.take_length]
set_option maxHeartbeats 4000000 in
theorem list_calls {w : World} {B g : Nat} {L : List Wm} {last : Int} (h : MB 126 73 B w g L last) (hL : L.length ≤ 8) :
    Calls Tryd.prog 36 #[.pointer (some ⟨g, 0, none⟩)] w (ListP L w) := by
  obtain ⟨A, n, c, hcb, how, hbd⟩ := h
  have hLn := MB.len how
  have hmk := makeM n (by omega)
  have hal := mail_alloc
  have cs := Lib.hid how.cs
  have glt := hcb.lt
  replace hcb := Lib.hid hcb
  replace hbd := Lib.hid hbd
  clear how
  have c0 := hcb.out.cell (j := 0) rfl
  have LS : Hid (Lw w (w.alloc (.cells (List.replicate n zM).flatten.toArray 73)) w.heap.size 0 n L) := Lw.start
  have FIN : Hid (∀ wr, Lw w wr w.heap.size n n L → ∀ e, e = .returned (.slice (some ⟨w.heap.size, 0, none⟩) n n) → ListP L w e wr) := fun wr q e he => q.done hLn (Nat.le_refl _) he
  go_enter Tryd.func36, Tryd.ntmps36
  go_upto_region 2 with fail
  refine wp_gen (fun W => Lw w W w.heap.size 0 n L) LS.out ?_
  generalize hr : w.heap.size = r at *
  replace hr := Lib.hid hr
  clear LS hmk c0
  rintro w0 l0
  have x0 : Ext w w0 := l0.choose_spec.2.2.2.2
  have c0 := (hcb.out.ext x0).cell (j := 0) rfl
  replace l0 := Lib.hid l0
  clear x0
  go_wp2_with fail
  go_loopw [17] (fun v wr => ∃ k : Nat, v = .int .i64 (k : Int) ∧ k ≤ n ∧ Lw w wr r k n L) (fun v _ => n - (intOf v).toNat)
  case atStart => exact ⟨0, rfl, Nat.zero_le _, l0.out⟩
  case round =>
    obtain ⟨k, rfl, hkn, lk⟩ := hrel
    have xk : Ext w wr := lk.choose_spec.2.2.2.2
    have kg := hcb.out.ext xk
    by_cases hlt : k < n
    · obtain ⟨b, off, rfl, hb, hc⟩ := (cs.out.ext xk).at hlt
      have e1 : (L.map Wm.C).getD k [] = (L[k]'(by omega)).C := by rw [List.getD_eq_getElem?_getD, List.getElem?_map, List.getElem?_eq_getElem (by omega)]; rfl
      rw [e1] at hc
      have hm : (L[k]'(by omega)) ∈ L := List.getElem_mem _
      have hbk := (hbd.out _ hm).2.ext xk
      have hok := (hbd.out _ hm).1
      have CP : Hid (∀ W, Ext wr W → Calls Tryd.prog 62 #[.agg (L[k]'(by omega)).C.toArray] W fun e w' => ∃ A c, e = .returned (.agg (⟨(L[k]'(by omega)).d, A, c⟩ : Wm).C.toArray) ∧ BsF W.heap.size w' A (L[k]'(by omega)).d.body.length c (L[k]'(by omega)).d.body ∧ Ext W w') := fun W e => copied_calls hok (hbk.1.ext e)
      obtain ⟨y, hy⟩ : ∃ y, y = L[k]'(by omega) := ⟨_, rfl⟩
      have ST : Hid (∀ w2 A c, Ext wr w2 → BsF wr.heap.size w2 A y.d.body.length c y.d.body → Lw w (w2.setCells r (k * 138) (⟨y.d, A, c⟩ : Wm).C) r (k + 1) n L ∧ w2.there r (k * 138) 138) := fun w2 A c e hb => by
        subst hy
        exact lk.step hlt hLn e (Nat.le_of_eq hr.out) hok hb
      rw [← hy] at hc CP
      have L_y : y.C.length = 138 := by rw [hy]; exact Wm.C_len hok
      have O_y := one_cells y.one
      have L_z : Hid (∀ A c, (⟨y.d, A, c⟩ : Wm).C.length = 138 ∧ (⟨y.d, A, c⟩ : Wm).C.toArray.all (·.oneCell') = true) := fun A c => ⟨Wm.C_len (x := ⟨y.d, A, c⟩) (by rw [hy]; exact hok), one_cells (Wm.one _)⟩
      clear hy hok hbk hm e1 lk kg
      generalize hF : (fun (A : Option Addr) (c : Nat) => (⟨y.d, A, c⟩ : Wm).C) = F at *
      have hF' : ∀ A c, (⟨y.d, A, c⟩ : Wm).C = F A c := fun A c => by rw [← hF]
      generalize hyc : y.C = YC at *
      simp only [hF'] at CP L_z ST
      clear hF hF' hyc
      generalize y.d.body = body at *
      replace hc : Hid (∀ i v, YC[i]? = some v → wr.cell? ⟨b, off + k * 138 + i, none⟩ = some v) := hc
      have S_y : YC.toArray.size = 138 := by rw [List.size_toArray, L_y]
      have Lz := zM_len
      generalize zM = Z at *
      have S_z : Z.toArray.size = 138 := by rw [List.size_toArray, Lz]
      obtain ⟨s, hs⟩ : ∃ s, s = wr.heap.size := ⟨_, rfl⟩
      have B4 : Hid ((wr.alloc (.cells Z.toArray 73)).heap[s]? = some (.cells Z.toArray 73 (0, 0))) := by unfold Hid; rw [hs]; exact heap_alloc_new _ _
      have B5 : Hid (Cb ((wr.alloc (.cells Z.toArray 73)).setRow s YC.toArray) s 73 YC ∧ Ext wr ((wr.alloc (.cells Z.toArray 73)).setRow s YC.toArray)) := ⟨setRow_heap _ _ _ _ _ _ B4.out, below_setRow ((Ext.refl wr).alloc _) (Nat.le_of_eq hs.symm) _⟩
      go_upto_region 5 with (first
        | ((with_reducible refine wpList_load_mid (o := ⟨some 21, _, _, _, _, _⟩) (ty := 73) (g := b) (off := off + k * 138) (ys := YC) ?_ rfl ?_ ?_ Tryd.underlying73 ?_ ?_ ?_); (· rfl); (· rfl); (· exact hc.out); (· rfl); (· rw [L_y]; rfl); go_frame)
        | (refine wpList_store_row rfl 73 _ _ rfl s YC.toArray (by rw [hs]; rfl) rfl 73 Z.toArray B4.out (by rw [S_y]; rfl) (by rw [S_y, S_z]) O_y ?_; go_frame))
      refine wp_gen (fun W => Cb W s 73 YC ∧ Ext wr W) B5.out ?_
      rw [← hs]
      clear B4 B5 hc
      rintro w2 ⟨k2, x2⟩
      have CP2 := Lib.hid (CP.out w2 x2)
      replace k2 := Lib.hid k2
      replace x2 := Lib.hid x2
      clear CP
      go_wp2_with (first | ((with_reducible refine wpList_load_rowW (o := ⟨some 24, _, _, _, _, _⟩) ?_ 73 _ rfl s ?_ 73 YC.toArray (0, 0) _ ?_ Tryd.underlying73 ?_ ?_ ?_); (· rfl); (· rfl); (· exact k2.out); (· rfl); (· rw [S_y]; rfl); go_frame))
      refine CP2.out.mono ?_
      rintro e w3 ⟨A3, c3, rfl, b3, x3⟩
      obtain ⟨l4, t4⟩ := ST.out w3 A3 c3 (x2.out.trans x3) (b3.mono x2.out.size)
      obtain ⟨L3, O3⟩ := L_z.out A3 c3
      replace l4 := Lib.hid l4
      replace t4 := Lib.hid t4
      clear CP2 ST L_z b3 x3 x2 k2 hs
      generalize F A3 c3 = E at *
      have S_E : E.toArray.size = 138 := by rw [List.size_toArray, L3]
      go_wp2_with (first | ((with_reducible refine wpList_store_mid (op := ⟨none, .store 73 (.tmp 26) (.tmp 25), _, _, _, _⟩) ?_ 73 _ _ rfl r (k * 138) E.toArray ?_ ?_ ?_ ?_ ?_ ?_); (· rfl); (· rfl); (· rfl); (· rw [S_E]; exact t4.out); (· rw [S_E]; rfl); (· exact O3); go_frame))
      go_round
      case rel => exact ⟨k + 1, by go_num, by omega, l4.out⟩
      case measure => simp [intOf]; omega
    · obtain rfl : k = n := by omega
      have c0 := kg.cell (j := 0) rfl
      clear cs hcb hbd
      go_wp2_with fail
      go_ret
      exact FIN.out _ lk _ rfl
end Go.Proofs.YtbnjmmefnjoofaaDoor
