import Derived.Test.YtbnjmmefnjoofaaDoorPut
import Derived.Deep.MidRow
section
/-
  mailbox.New and mailbox.List.
-/
namespace Go.Proofs.YtbnjmmefnjoofaaDoor
open Go.ChangeShapes Go.WideShapes Go.ChangeAt Go.RowKit Go.Deep
set_option maxRecDepth 100000

theorem new_calls {w : World} : Calls Tryd.prog 64 #[] w fun e w' => e = .returned (.pointer (some ⟨w.heap.size, 0, none⟩)) ∧ (∀ B, MB 126 73 B w' w.heap.size [] 0) ∧ Ext w w' := by
  have hbz : Tryd.prog.built 126 [] = some #[.slice none 0 0, .int .i64 0] := by kernel_rfl
  have FIN : Hid ((∀ B, MB 126 73 B (w.alloc (.cells #[.slice none 0 0, .int .i64 0] 126)) w.heap.size [] 0) ∧ Ext w (w.alloc (.cells #[.slice none 0 0, .int .i64 0] 126))) :=
    ⟨fun B => ⟨none, 0, 0, Cb.new w _ [.slice none 0 0, .int .i64 0], OwnC.nil _ _ _ _, fun x hx => by cases hx⟩, (Ext.refl w).alloc _⟩
  go_enter Tryd.func64, Tryd.ntmps64
  go_wp2_with (refine wpList_build_as rfl _ _ rfl #[.slice none 0 0, .int .i64 0] (by simp only [List.map_toArray, List.map_nil]; exact hbz) ?_; go_frame)
  go_ret
  exact ⟨rfl, FIN.out⟩

theorem madeCells_flat {Z : List Value} {s : Nat} (hs : Z.length = s) (hz : 0 < s) (n : Nat) : madeCells Z.toArray (n * s) = (List.replicate n Z).flatten.toArray := by
  have hl : (List.replicate n Z).flatten.length = n * s := by rw [flatten_len (s := s) (fun x hx => by rw [List.eq_of_mem_replicate hx]; exact hs), List.length_replicate]
  apply Array.ext
  · rw [size_madeCells, List.size_toArray, hl]
  · intro i h1 h2
    rw [size_madeCells] at h1
    have hj : i / s < n := Nat.div_lt_of_lt_mul (by rw [Nat.mul_comm]; exact h1)
    have hr := Nat.mod_lt i hz
    have e : i / s * s + i % s = i := by rw [Nat.mul_comm]; exact Nat.div_add_mod i s
    have q := flat_at (L := List.replicate n Z) (s := s) (fun x hx => by rw [List.eq_of_mem_replicate hx]; exact hs) (j := i / s) (i := i % s) (by rw [List.length_replicate]; exact hj) hr
    rw [e, List.getD_eq_getElem?_getD, List.getElem?_replicate, if_pos hj, Option.getD_some, List.getElem?_eq_getElem (by rw [hl]; exact h1), List.getElem?_eq_getElem (by rw [hs]; exact hr)] at q
    simp only [madeCells, Array.getElem_map, Array.getElem_range, List.size_toArray, hs]
    rw [getElem!_pos _ _ (by simp [hs]; exact hr)]
    simp only [List.getElem_toArray]
    exact (Option.some.inj q).symm
/-- make([]Mail, n). -/
theorem makeM (n : Nat) (hn : n ≤ 1000) (w : World) :
    (Instr.makeSlice 42 (.int .i64 (n : Int)) (.int .i64 (n : Int))).run Tryd.prog w = .ok (.slice (some ⟨w.heap.size, 0, none⟩) n n) (w.alloc (.cells (List.replicate n zM).flatten.toArray 73)) := by
  obtain ⟨i, hi, h0, h1, h2⟩ := info_parts infoM
  have hb := bytesM
  have hle : n * i.bytes ≤ 1000 * 1000000 := Nat.mul_le_mul hn (by rw [h2]; exact hb)
  have h4 : (i.bytes : Int) * (n : Int) ≤ 281474976710656 := by
    have h3 : ((n * i.bytes : Nat) : Int) ≤ 1000000000 := by omega
    rw [Int.natCast_mul, Int.mul_comm] at h3
    omega
  have := run_make (P := Tryd.prog) w 42 73 i (.agg zM.toArray) Tryd.underlying42 hi h0 .i64 .i64 (n : Int) (n : Int) (by omega) (by omega) (by first | exact h4 | omega) (by omega)
  rw [this]
  simp only [Int.toNat_natCast]
  rw [h1, show (Value.agg zM.toArray).cells = zM.toArray from rfl, madeCells_flat zM_len (by omega)]
/-- The rows of a list that is being made. -/
def rowL (L' : List Wm) (m : Nat) : List Value := (L'.map Wm.C ++ List.replicate m zM).flatten
theorem rowL_put {L' : List Wm} {m k : Nat} {y : Wm} (hl : ∀ x ∈ L', x.d.ok) (hy : y.d.ok) (hk : L'.length = k) {w : World} {r : Nat} {T : TypeId} (h : Cb w r T (rowL L' (m + 1))) : Cb (w.setCells r (k * 138) y.C) r T (rowL (L' ++ [y]) m) ∧ w.there r (k * 138) 138 := by
  have e : rowL L' (m + 1) = (L'.map Wm.C).flatten ++ (zM ++ (List.replicate m zM).flatten) := by unfold rowL; rw [List.replicate_succ, List.flatten_append, List.flatten_cons]
  have e2 : rowL (L' ++ [y]) m = (L'.map Wm.C).flatten ++ (y.C ++ (List.replicate m zM).flatten) := by unfold rowL; rw [List.map_append, List.flatten_append, List.flatten_append]; simp
  have l1 : (L'.map Wm.C).flatten.length = k * 138 := by
    rw [flatten_len (s := 138) (fun x hx => by obtain ⟨z, hz, rfl⟩ := List.mem_map.1 hx; exact z.C_len (hl z hz)), List.length_map, hk]
  refine ⟨?_, h.there (by rw [e, List.length_append, List.length_append, l1, zM_len]; omega)⟩
  rw [e2]
  exact h.put e l1 (by rw [zM_len, y.C_len hy])
/-- What List hands back. -/
def ListP (L : List Wm) (w : World) (e : Ending) (w' : World) : Prop := ∃ (q : Nat) (L' : List Wm), e = .returned (.slice (some ⟨q, 0, none⟩) L.length L.length) ∧ w.heap.size ≤ q ∧ Cb w' q 73 (L'.map Wm.C).flatten ∧ L'.map (·.d) = L.map (·.d) ∧ (∀ y ∈ L', y.d.ok ∧ BsF w.heap.size w' y.A y.d.body.length y.c y.d.body) ∧ Ext w w'
/-- The worlds of List. -/
def Lw (w wr : World) (r k n : Nat) (L : List Wm) : Prop := ∃ L', L'.length = k ∧ L'.map (·.d) = (L.take k).map (·.d) ∧ Cb wr r 73 (rowL L' (n - k)) ∧ (∀ y ∈ L', y.d.ok ∧ BsF w.heap.size wr y.A y.d.body.length y.c y.d.body) ∧ Ext w wr
theorem Lw.step {w wr w2 : World} {r k n : Nat} {L : List Wm} (h : Lw w wr r k n L) (hk : k < n) (hn : L.length = n) (e : Ext wr w2) {A : Option Addr} {c : Nat} (hr : w.heap.size ≤ r) (hx : (L[k]'(by omega)).d.ok) (hb : BsF wr.heap.size w2 A (L[k]'(by omega)).d.body.length c (L[k]'(by omega)).d.body) :
    Lw w (w2.setCells r (k * 138) (⟨(L[k]'(by omega)).d, A, c⟩ : Wm).C) r (k + 1) n L ∧ w2.there r (k * 138) 138 := by
  obtain ⟨L', h1, h2, h3, h4, h5⟩ := h
  have hlt := h3.lt
  obtain ⟨q1, q2⟩ := rowL_put (m := n - (k + 1)) (y := ⟨(L[k]'(by omega)).d, A, c⟩) (fun x hx => (h4 x hx).1) hx h1 (by rw [show n - (k + 1) + 1 = n - k by omega]; exact h3.ext e)
  have ot : ∀ (i : Nat) (cs : Array Value), w2.heap[i]? = some (Obj.cells cs 5 (0, 0)) → (w2.setCells r (k * 138) (⟨(L[k]'(by omega)).d, A, c⟩ : Wm).C).heap[i]? = some (Obj.cells cs 5 (0, 0)) := fun i cs hi => ((grown_setCells (w := w2) (g := r) (o := k * 138) (vs := (⟨(L[k]'(by omega)).d, A, c⟩ : Wm).C)).block i (heap_lt hi) (fun q => by
    have q := Option.some.inj q
    subst q
    have this : w2.heap[i]? = some (Obj.cells (rowL L' (n - k)).toArray 73 (0, 0)) := h3.ext e
    rw [hi] at this
    injection this with this
    injection this with _ this
    cases this)).trans hi
  refine ⟨⟨L' ++ [⟨(L[k]'(by omega)).d, A, c⟩], by simp [h1], ?_, q1, fun y hy => ?_, ?_⟩, q2⟩
  · rw [List.map_append, h2, List.take_succ_eq_append_getElem (by omega), List.map_append]
    rfl
  · rcases List.mem_append.1 hy with hy | hy
    · exact ⟨(h4 y hy).1, ((h4 y hy).2.ext e).keep fun i cs hi _ => ot i cs hi⟩
    · rw [List.mem_singleton.1 hy]
      exact ⟨hx, (hb.mono h5.size).keep fun i cs hi _ => ot i cs hi⟩
  · have g := grown_setCells (w := w2) (g := r) (o := k * 138) (vs := (⟨(L[k]'(by omega)).d, A, c⟩ : Wm).C)
    exact Below.trans (h5.trans e) ⟨g.os, g.tape, g.output, g.size, fun i hi => g.block i (Nat.lt_of_lt_of_le hi (h5.trans e).size) (fun q => by have := Option.some.inj q; omega)⟩
theorem Lw.start {w : World} {n : Nat} {L : List Wm} : Lw w (w.alloc (.cells (List.replicate n zM).flatten.toArray 73)) w.heap.size 0 n L := ⟨[], rfl, rfl, Cb.new _ _ _, (fun y hy => by cases hy), (Ext.refl w).alloc _⟩
theorem Lw.done {w wr : World} {r n : Nat} {L : List Wm} (h : Lw w wr r n n L) (hn : L.length = n) (hr : w.heap.size ≤ r) {e : Ending} (he : e = .returned (.slice (some ⟨r, 0, none⟩) n n)) : ListP L w e wr := by
  obtain ⟨L', h1, h2, h3, h4, h5⟩ := h
  refine ⟨r, L', by rw [he, hn], hr, ?_, ?_, h4, h5⟩
  · rw [Nat.sub_self] at h3
    simpa [rowL] using h3
  · rw [h2, ← hn, List.take_length]
set_option maxHeartbeats 4000000 in
theorem list_calls {w : World} {B g : Nat} {L : List Wm} {last : Int} (h : MB 126 73 B w g L last) (hL : L.length ≤ 8) :
    Calls Tryd.prog 36 #[.pointer (some ⟨g, 0, none⟩)] w (ListP L w) := by
  obtain ⟨A, n, c, hcb, how, hbd⟩ := h
  have hLn := MB.len how
  have hmk := makeM n (by omega)
  have hal := mail_alloc
  have cs := Lib.hid how.cs
  have glt := hcb.lt
  replace hcb := Lib.hid hcb
  replace hbd := Lib.hid hbd
  clear how
  have c0 := hcb.out.cell (j := 0) rfl
  have LS : Hid (Lw w (w.alloc (.cells (List.replicate n zM).flatten.toArray 73)) w.heap.size 0 n L) := Lw.start
  have FIN : Hid (∀ wr, Lw w wr w.heap.size n n L → ∀ e, e = .returned (.slice (some ⟨w.heap.size, 0, none⟩) n n) → ListP L w e wr) := fun wr q e he => q.done hLn (Nat.le_refl _) he
  go_enter Tryd.func36, Tryd.ntmps36
  go_upto_region 2 with fail
  refine wp_gen (fun W => Lw w W w.heap.size 0 n L) LS.out ?_
  generalize hr : w.heap.size = r at *
  replace hr := Lib.hid hr
  clear LS hmk c0
  rintro w0 l0
  have x0 : Ext w w0 := l0.choose_spec.2.2.2.2
  have c0 := (hcb.out.ext x0).cell (j := 0) rfl
  replace l0 := Lib.hid l0
  clear x0
  go_wp2_with fail
  go_loopw [17] (fun v wr => ∃ k : Nat, v = .int .i64 (k : Int) ∧ k ≤ n ∧ Lw w wr r k n L) (fun v _ => n - (intOf v).toNat)
  case atStart => exact ⟨0, rfl, Nat.zero_le _, l0.out⟩
  case round =>
    obtain ⟨k, rfl, hkn, lk⟩ := hrel
    have xk : Ext w wr := lk.choose_spec.2.2.2.2
    have kg := hcb.out.ext xk
    by_cases hlt : k < n
    · obtain ⟨b, off, rfl, hb, hc⟩ := (cs.out.ext xk).at hlt
      have e1 : (L.map Wm.C).getD k [] = (L[k]'(by omega)).C := by rw [List.getD_eq_getElem?_getD, List.getElem?_map, List.getElem?_eq_getElem (by omega)]; rfl
      rw [e1] at hc
      have hm : (L[k]'(by omega)) ∈ L := List.getElem_mem _
      have hbk := (hbd.out _ hm).2.ext xk
      have hok := (hbd.out _ hm).1
      have CP : Hid (∀ W, Ext wr W → Calls Tryd.prog 62 #[.agg (L[k]'(by omega)).C.toArray] W fun e w' => ∃ A c, e = .returned (.agg (⟨(L[k]'(by omega)).d, A, c⟩ : Wm).C.toArray) ∧ BsF W.heap.size w' A (L[k]'(by omega)).d.body.length c (L[k]'(by omega)).d.body ∧ Ext W w') := fun W e => copied_calls hok (hbk.1.ext e)
      obtain ⟨y, hy⟩ : ∃ y, y = L[k]'(by omega) := ⟨_, rfl⟩
      have ST : Hid (∀ w2 A c, Ext wr w2 → BsF wr.heap.size w2 A y.d.body.length c y.d.body → Lw w (w2.setCells r (k * 138) (⟨y.d, A, c⟩ : Wm).C) r (k + 1) n L ∧ w2.there r (k * 138) 138) := fun w2 A c e hb => by
        subst hy
        exact lk.step hlt hLn e (Nat.le_of_eq hr.out) hok hb
      rw [← hy] at hc CP
      have L_y : y.C.length = 138 := by rw [hy]; exact Wm.C_len hok
      have O_y := one_cells y.one
      have L_z : Hid (∀ A c, (⟨y.d, A, c⟩ : Wm).C.length = 138 ∧ (⟨y.d, A, c⟩ : Wm).C.toArray.all (·.oneCell') = true) := fun A c => ⟨Wm.C_len (x := ⟨y.d, A, c⟩) (by rw [hy]; exact hok), one_cells (Wm.one _)⟩
      clear hy hok hbk hm e1 lk kg
      generalize hF : (fun (A : Option Addr) (c : Nat) => (⟨y.d, A, c⟩ : Wm).C) = F at *
      have hF' : ∀ A c, (⟨y.d, A, c⟩ : Wm).C = F A c := fun A c => by rw [← hF]
      generalize hyc : y.C = YC at *
      simp only [hF'] at CP L_z ST
      clear hF hF' hyc
      generalize y.d.body = body at *
      replace hc : Hid (∀ i v, YC[i]? = some v → wr.cell? ⟨b, off + k * 138 + i, none⟩ = some v) := hc
      have S_y : YC.toArray.size = 138 := by rw [List.size_toArray, L_y]
      have Lz := zM_len
      generalize zM = Z at *
      have S_z : Z.toArray.size = 138 := by rw [List.size_toArray, Lz]
      obtain ⟨s, hs⟩ : ∃ s, s = wr.heap.size := ⟨_, rfl⟩
      have B4 : Hid ((wr.alloc (.cells Z.toArray 73)).heap[s]? = some (.cells Z.toArray 73 (0, 0))) := by unfold Hid; rw [hs]; exact heap_alloc_new _ _
      have B5 : Hid (Cb ((wr.alloc (.cells Z.toArray 73)).setRow s YC.toArray) s 73 YC ∧ Ext wr ((wr.alloc (.cells Z.toArray 73)).setRow s YC.toArray)) := ⟨setRow_heap _ _ _ _ _ _ B4.out, below_setRow ((Ext.refl wr).alloc _) (Nat.le_of_eq hs.symm) _⟩
      go_upto_region 5 with (first
        | ((with_reducible refine wpList_load_mid (o := ⟨some 21, _, _, _, _, _⟩) (ty := 73) (g := b) (off := off + k * 138) (ys := YC) ?_ rfl ?_ ?_ Tryd.underlying73 ?_ ?_ ?_); (· rfl); (· rfl); (· exact hc.out); (· rfl); (· rw [L_y]; rfl); go_frame)
        | (refine wpList_store_row rfl 73 _ _ rfl s YC.toArray (by rw [hs]; rfl) rfl 73 Z.toArray B4.out (by rw [S_y]; rfl) (by rw [S_y, S_z]) O_y ?_; go_frame))
      refine wp_gen (fun W => Cb W s 73 YC ∧ Ext wr W) B5.out ?_
      rw [← hs]
      clear B4 B5 hc
      rintro w2 ⟨k2, x2⟩
      have CP2 := Lib.hid (CP.out w2 x2)
      replace k2 := Lib.hid k2
      replace x2 := Lib.hid x2
      clear CP
      go_wp2_with (first | ((with_reducible refine wpList_load_rowW (o := ⟨some 24, _, _, _, _, _⟩) ?_ 73 _ rfl s ?_ 73 YC.toArray (0, 0) _ ?_ Tryd.underlying73 ?_ ?_ ?_); (· rfl); (· rfl); (· exact k2.out); (· rfl); (· rw [S_y]; rfl); go_frame))
      refine CP2.out.mono ?_
      rintro e w3 ⟨A3, c3, rfl, b3, x3⟩
      obtain ⟨l4, t4⟩ := ST.out w3 A3 c3 (x2.out.trans x3) (b3.mono x2.out.size)
      obtain ⟨L3, O3⟩ := L_z.out A3 c3
      replace l4 := Lib.hid l4
      replace t4 := Lib.hid t4
      clear CP2 ST L_z b3 x3 x2 k2 hs
      generalize F A3 c3 = E at *
      have S_E : E.toArray.size = 138 := by rw [List.size_toArray, L3]
      go_wp2_with (first | ((with_reducible refine wpList_store_mid (op := ⟨none, .store 73 (.tmp 26) (.tmp 25), _, _, _, _⟩) ?_ 73 _ _ rfl r (k * 138) E.toArray ?_ ?_ ?_ ?_ ?_ ?_); (· rfl); (· rfl); (· rfl); (· rw [S_E]; exact t4.out); (· rw [S_E]; rfl); (· exact O3); go_frame))
      go_round
      case rel => exact ⟨k + 1, by go_num, by omega, l4.out⟩
      case measure => simp [intOf]; omega
    · obtain rfl : k = n := by omega
      have c0 := kg.cell (j := 0) rfl
      clear cs hcb hbd
      go_wp2_with fail
      go_ret
      exact FIN.out _ lk _ rfl
end Go.Proofs.YtbnjmmefnjoofaaDoor
end

section
/-
  mailbox.Ack.
-/
namespace Go.Proofs.YtbnjmmefnjoofaaDoor
open Go.ChangeShapes Go.WideShapes Go.ChangeAt Go.RowKit Go.Deep
set_option maxRecDepth 100000

/-- Those that are left when the one with a number goes. -/
def dropI (id : Int) : List Wm → List Wm
  | [] => []
  | x :: r => if x.d.id = id then r else x :: dropI id r
def hasI (id : Int) (L : List Wm) : Bool := L.any fun x => x.d.id == id
def akE (L : List Wm) (last id : Int) : Int := if id < 1 ∨ last < id then 7 else if hasI id L then 0 else 5
def akL (L : List Wm) (last id : Int) : List Wm := if id < 1 ∨ last < id then L else dropI id L
theorem dropI_none {id : Int} : ∀ {L : List Wm}, (∀ x ∈ L, x.d.id ≠ id) → dropI id L = L ∧ hasI id L = false
  | [], _ => ⟨rfl, rfl⟩
  | x :: L, h => by
    obtain ⟨h1, h2⟩ := dropI_none (L := L) fun y hy => h y (List.mem_cons_of_mem _ hy)
    have h3 := h x (List.mem_cons_self ..)
    refine ⟨by rw [dropI, if_neg h3, h1], ?_⟩
    unfold hasI at h2 ⊢
    rw [List.any_cons, h2]
    simp [h3]
theorem dropI_at {id : Int} : ∀ {P : List Wm} {x : Wm} {R : List Wm}, (∀ y ∈ P, y.d.id ≠ id) → x.d.id = id → dropI id (P ++ x :: R) = P ++ R ∧ hasI id (P ++ x :: R) = true
  | [], x, R, _, hx => ⟨by rw [List.nil_append, dropI, if_pos hx]; rfl, by simp [hasI, hx]⟩
  | y :: P, x, R, h, hx => by
    obtain ⟨h1, h2⟩ := dropI_at (P := P) (x := x) (R := R) (fun z hz => h z (List.mem_cons_of_mem _ hz)) hx
    have h3 := h y (List.mem_cons_self ..)
    refine ⟨by rw [List.cons_append, dropI, if_neg h3, h1]; rfl, ?_⟩
    unfold hasI at h2 ⊢
    rw [List.cons_append, List.any_cons, h2]
    simp
theorem OwnC.mono {B B' : Nat} {w : World} {e : TypeId} {s : Nat} {A : Option Addr} {n c : Nat} {L : List (List Value)} (h : OwnC B w e s A n c L) (hB : B' ≤ B) : OwnC B' w e s A n c L := by
  refine ⟨⟨h.1.1, ?_⟩, h.2⟩
  rcases h.1.2 with h | ⟨g, cap, cur, hv, hb, r⟩
  · exact .inl h
  · exact .inr ⟨g, cap, cur, hv, Nat.le_trans hB hb, r⟩
/-- Nothing but a block of these types turns, and of these only block g. -/
def Tg (B : Nat) (S : TypeId → Bool) (g : Nat) (w w' : World) : Prop := Tb B S w w' ∧ w.grownBy w' (some g)
theorem Tg.refl (B : Nat) (S : TypeId → Bool) (g : Nat) (w : World) : Tg B S g w w := ⟨Tb.refl _ _ _, World.grownBy.refl w _⟩
/-- Another row is put into the box. -/
theorem MB.put {TB TM : TypeId} {B B' g : Nat} {S : TypeId → Bool} {w w1 : World} {L L' : List Wm} {last : Int} (h : MB TB TM B w g L last) (e : Ext w w1) {A : Option Addr} {n c : Nat} (ho : OwnC w.heap.size w1 TM 138 A n c (L'.map Wm.C)) (hs : ∀ x ∈ L', x ∈ L) (hB : B ≤ w.heap.size) (h0 : B' ≤ g) (hS : S TB = true) (ht : TB ≠ TM) (hu : TB ≠ 5) :
    MB TB TM B (w1.setCell ⟨g, 0, none⟩ (.slice A n c)) g L' last ∧ Tb B' S w (w1.setCell ⟨g, 0, none⟩ (.slice A n c)) := by
  obtain ⟨A0, n0, c0, h1, h2, h3⟩ := h
  have kg := h1.ext e
  have ot : ∀ (i : Nat) (cs : Array Value) (t : TypeId), w1.heap[i]? = some (Obj.cells cs t (0, 0)) → TB ≠ t → (w1.setCell ⟨g, 0, none⟩ (.slice A n c)).heap[i]? = some (Obj.cells cs t (0, 0)) := fun i cs t hi ht => (Below.heap_setCell _ _ _ _ (show i ≠ g from fun q => by
    subst q
    rw [kg] at hi
    injection hi with hi
    injection hi with _ hi
    exact ht hi)).trans hi
  exact ⟨⟨A, n, c, kg.setCell, (ho.mono hB).keep fun i cs hi _ => ot i cs _ hi ht, fun x hx => ⟨(h3 x (hs x hx)).1, ((h3 x (hs x hx)).2.ext e).keep fun i cs hi _ => ot i cs _ hi hu⟩⟩, (Tb.of_ext e).trans (Tb.cell 0 _ kg h0 hS)⟩
set_option maxHeartbeats 8000000 in
theorem ack_calls {w : World} {B0 B g : Nat} {L : List Wm} {last id : Int} (h : MB 126 73 B w g L last) (hL : L.length ≤ 8) (hB : B ≤ w.heap.size) (hg : B0 ≤ g) :
    Calls Tryd.prog 53 #[.pointer (some ⟨g, 0, none⟩), .int .i64 id] w fun e w' => e = .returned (.int .i64 (akE L last id)) ∧ MB 126 73 B w' g (akL L last id) last ∧ Tg B0 tagP g w w' := by
  have PUT : Hid (∀ w1 A n c (L' : List Wm), Ext w w1 → OwnC w.heap.size w1 73 138 A n c (L'.map Wm.C) → (∀ x ∈ L', x ∈ L) → MB 126 73 B (w1.setCell ⟨g, 0, none⟩ (.slice A n c)) g L' last ∧ Tg B0 tagP g w (w1.setCell ⟨g, 0, none⟩ (.slice A n c))) := fun w1 A n c L' e ho hs => ⟨(h.put (S := tagP) e ho hs hB hg rfl (by decide) (by decide)).1, (h.put (S := tagP) e ho hs hB hg rfl (by decide) (by decide)).2, gr_trans (grown_ofE e) (grown_setCells (vs := [.slice A n c]))⟩
  by_cases hin : id < 1 ∨ last < id
  · have E : akE L last id = 7 ∧ akL L last id = L := ⟨if_pos hin, if_pos hin⟩
    rw [E.1, E.2]
    have FIN : Hid (MB 126 73 B w g L last ∧ Tg B0 tagP g w w) := ⟨h, Tg.refl _ _ _ _⟩
    obtain ⟨A, n, c, hcb, how, hbd⟩ := h
    have c1 := hcb.cell (j := 1) rfl
    clear E hcb how hbd PUT
    by_cases h1 : id < 1
    · clear hin
      go_enter Tryd.func53, Tryd.ntmps53
      go_wp2_with fail
      go_step3
      go_wp2_with fail
      (try simp only [Exit.inBlock, Exit.then])
      rw [Exit.noGoto_ret]
      go_ret
      exact ⟨rfl, FIN.out⟩
    · have h2 : last < id := hin.resolve_left h1
      clear hin
      go_enter Tryd.func53, Tryd.ntmps53
      go_wp2_with fail
      go_step3
      go_wp2_with fail
      (try simp only [Exit.inBlock, Exit.then])
      rw [Exit.noGoto_ret]
      go_ret
      exact ⟨rfl, FIN.out⟩
  · have i1 : ¬ id < 1 := fun q => hin (.inl q)
    have i2 : ¬ last < id := fun q => hin (.inr q)
    have E : akE L last id = (if hasI id L then 0 else 5) ∧ akL L last id = dropI id L := ⟨if_neg hin, if_neg hin⟩
    rw [E.1, E.2]
    clear E hin
    obtain ⟨ee, hee⟩ : ∃ ee : Int, ee = (if hasI id L then 0 else 5) := ⟨_, rfl⟩
    rw [← hee]
    replace hee := Lib.hid (fun _ : Unit => hee)
    have FIN : Hid (∀ (er : Int) (LL : List Wm) (W : World), er = ee → LL = dropI id L → MB 126 73 B W g LL last ∧ Tg B0 tagP g w W → Ending.returned (.int .i64 er) = .returned (.int .i64 ee) ∧ MB 126 73 B W g (dropI id L) last ∧ Tg B0 tagP g w W) := by
      rintro er LL W rfl rfl q
      exact ⟨rfl, q.1, q.2⟩
    obtain ⟨A, n, c, hcb, how, hbd⟩ := h
    have hLn := MB.len how
    have hcap := how.cap
    have n8 : c ≤ 9223372036854775807 := by have := hcap.2; unfold maxLen at this; omega
    have hcap1 := hcap.1
    have hal := mail_alloc
    have c0 := hcb.cell (j := 0) rfl
    have c1 := hcb.cell (j := 1) rfl
    have cs := Lib.hid how.cs
    replace hcb := Lib.hid hcb
    have hok : Hid (∀ x ∈ L, x.d.ok) := fun x hx => (hbd x hx).1
    clear how hbd
    go_enter Tryd.func53, Tryd.ntmps53
    go_wp2_with fail
    go_step3
    go_wp2_with fail
    go_step3
    go_wp2_with fail
    go_loopw [5, 6, 24] (fun lv fv v wr => ∃ (k : Nat) (D : Option Addr) (cc : Nat), k ≤ n ∧ v = .int .i64 (k : Int) ∧ fv = .int .i64 5 ∧ lv = .slice D k cc ∧ OwnC w.heap.size wr 73 138 D k cc ((L.take k).map Wm.C) ∧ (∀ x ∈ L.take k, x.d.id ≠ id) ∧ Ext w wr) (fun _ _ v _ => n - (intOf v).toNat)
    case atStart => exact ⟨0, none, 0, Nat.zero_le _, rfl, rfl, rfl, OwnC.nil _ _ _ _, (fun x hx => by simp at hx), Ext.refl w⟩
    case round =>
      obtain ⟨k, D, cc, hkn, rfl, rfl, rfl, own, hne, xk⟩ := hrel
      have kg := hcb.out.ext xk
      by_cases hlt : k < n
      · obtain ⟨b, off, hA, hb, hc⟩ := (cs.out.ext xk).at hlt
        subst hA
        have e1 : (L.map Wm.C).getD k [] = (L[k]'(by omega)).C := by rw [List.getD_eq_getElem?_getD, List.getElem?_map, List.getElem?_eq_getElem (by omega)]; rfl
        rw [e1] at hc
        obtain ⟨y, hy⟩ : ∃ y, y = L[k]'(by omega) := ⟨_, rfl⟩
        have hm : y ∈ L := by rw [hy]; exact List.getElem_mem _
        have tk : L.take (k + 1) = L.take k ++ [y] := by rw [hy, List.take_succ_eq_append_getElem (by omega)]
        have dk : L = L.take k ++ y :: L.drop (k + 1) := by
          rw [hy, ← List.drop_eq_getElem_cons (by omega), List.take_append_drop]
        rw [← hy] at hc
        have L_y : y.C.length = 138 := Wm.C_len (hok.out y hm)
        have O_y := one_cells y.one
        have O_y' := Lib.hid y.one
        have G0 : Hid (y.C[0]? = some (.int .i64 y.d.id)) := y.c0
        replace tk := Lib.hid (fun _ : Unit => tk)
        replace dk := Lib.hid (fun _ : Unit => dk)
        replace hne := Lib.hid hne
        replace own := Lib.hid own
        replace xk := Lib.hid xk
        obtain ⟨YC, hyc⟩ : ∃ YC, YC = y.C := ⟨_, rfl⟩
        rw [← hyc] at hc L_y O_y O_y' G0
        obtain ⟨iy, hiy⟩ : ∃ iy, iy = y.d.id := ⟨_, rfl⟩
        rw [← hiy] at G0
        replace hiy := Lib.hid (fun _ : Unit => hiy)
        replace hyc := Lib.hid (fun _ : Unit => hyc)
        clear hy e1 hm
        replace hc : Hid (∀ i v, YC[i]? = some v → wr.cell? ⟨b, off + k * 138 + i, none⟩ = some v) := hc
        have S_y : YC.toArray.size = 138 := by rw [List.size_toArray, L_y]
        have Lz := zM_len
        have IM := infoM
        have ZC := zM_cells
        generalize zM = Z at *
        have S_z : Z.toArray.size = 138 := by rw [List.size_toArray, Lz]
        obtain ⟨s, hs⟩ : ∃ s, s = wr.heap.size := ⟨_, rfl⟩
        have B4 : Hid ((wr.alloc (.cells Z.toArray 73)).heap[s]? = some (.cells Z.toArray 73 (0, 0))) := by unfold Hid; rw [hs]; exact heap_alloc_new _ _
        have B5 : Hid (Cb ((wr.alloc (.cells Z.toArray 73)).setRow s YC.toArray) s 73 YC ∧ Ext wr ((wr.alloc (.cells Z.toArray 73)).setRow s YC.toArray)) := ⟨setRow_heap _ _ _ _ _ _ B4.out, below_setRow ((Ext.refl wr).alloc _) (Nat.le_of_eq hs.symm) _⟩
        have kg' := Lib.hid kg
        clear kg c0 c1
        go_upto_region 9 with (first
          | ((with_reducible refine wpList_load_mid (o := ⟨some 28, _, _, _, _, _⟩) (ty := 73) (g := b) (off := off + k * 138) (ys := YC) ?_ rfl ?_ ?_ Tryd.underlying73 ?_ ?_ ?_); (· rfl); (· rfl); (· exact hc.out); (· rfl); (· rw [L_y]; rfl); go_frame)
          | (refine wpList_store_row rfl 73 _ _ rfl s YC.toArray (by rw [hs]; rfl) rfl 73 Z.toArray B4.out (by rw [S_y]; rfl) (by rw [S_y, S_z]) O_y ?_; go_frame))
        refine wp_gen (fun W => Cb W s 73 YC ∧ Ext wr W) B5.out ?_
        rw [← hs]
        clear B4 B5 hc hs
        rintro w2 ⟨k2, x2⟩
        have g2 := k2.cell G0.out
        replace k2 := Lib.hid k2
        have k2g := kg'.out.ext x2
        have c0 := k2g.cell (j := 0) rfl
        have X2 := Lib.hid (xk.out.trans x2)
        replace own := Lib.hid (own.out.ext x2)
        have sz2 := X2.out.size
        clear kg' k2g xk x2 hal
        by_cases hq : iy = id
        · have CUT := Lib.hid ((cs.out.ext X2.out).cut (k := k + 1) hlt)
          have D0 := fun _ : Unit => dropI_at (P := L.take k) (x := y) (R := L.drop (k + 1)) hne.out ((hiy.out ()).symm.trans hq)
          have D1 : Hid (dropI id L = L.take k ++ L.drop (k + 1) ∧ hasI id L = true) := by
            unfold Hid
            rw [dk.out ()]
            have := D0 ()
            rw [← dk.out ()] at this ⊢
            exact this
          have ALL : Hid (∀ x ∈ L.take k ++ L.drop (k + 1), x ∈ L) := fun x hx => by
            rcases List.mem_append.1 hx with q | q
            · exact List.mem_of_mem_take q
            · exact List.mem_of_mem_drop q
          have OD : Hid (∀ x ∈ (L.map Wm.C).drop (k + 1), ∀ u ∈ x, u.oneCell' = true) := fun x hx u hu => by
            obtain ⟨z, _, rfl⟩ := List.mem_map.1 (List.mem_of_mem_drop hx)
            exact z.one u hu
          have ed : (L.map Wm.C).drop (k + 1) = (L.drop (k + 1)).map Wm.C := List.map_drop.symm
          rw [ed] at CUT OD
          replace FIN : Hid (∀ W, MB 126 73 B W g (L.take k ++ L.drop (k + 1)) last ∧ Tg B0 tagP g w W → _) := fun W q => FIN.out 0 _ W (by rw [hee.out (), D1.out.2]; rfl) D1.out.1.symm q
          replace PUT : Hid (∀ w1 A n c, Ext w w1 → OwnC w.heap.size w1 73 138 A n c ((L.take k).map Wm.C ++ (L.drop (k + 1)).map Wm.C) → MB 126 73 B (w1.setCell ⟨g, 0, none⟩ (.slice A n c)) g (L.take k ++ L.drop (k + 1)) last ∧ Tg B0 tagP g w (w1.setCell ⟨g, 0, none⟩ (.slice A n c))) := fun w1 A n c e o => PUT.out w1 A n c _ e (by rw [List.map_append]; exact o) ALL.out
          clear D0 D1 ALL hee dk tk hne ed k2 O_y O_y' S_y L_y G0 hiy hyc
          have hqt : (iy == id) = true := by simp [hq]
          go_upto_region 13 with (first
            | (refine wpList_exec rfl (exec_fromC (s := 138) Tryd.underlying42 (by kernel_rfl) (k := k + 1) rfl rfl (by go_num) hlt hcap1) ?_; go_frame)
            | (refine wpList_append_cc rfl (t := 42) (e := 73) (s := 138) Tryd.underlying42 IM ZC (by omega) bytesM rfl rfl rfl own.out CUT.out OD.out (by omega) sz2 ?_; intro A4 c4 w4 o4 g4 b4; go_frame))
          all_goals (
            have X4 : Hid (Ext w w4) := Below.trans X2.out b4
            have P4 := Lib.hid (FIN.out _ (PUT.out w4 A4 _ c4 X4.out o4))
            have kg4 := hcb.out.ext X4.out
            have c4_ := kg4.cell (j := 0) rfl
            have f4_ := kg4.frozen 0
            clear PUT FIN X4 kg4 o4 g4 b4 CUT OD own X2 hok cs hcb c0 g2
            go_wp2_with fail
            all_goals (
              (try simp only [Exit.inBlock, Exit.then])
              (try rw [Exit.noGoto_ret])
              go_ret
              exact P4.out))
        · have OW5 : Hid (OwnC w.heap.size (w2.alloc (.cells YC.toArray 73)) 73 138 D k cc ((L.take k).map Wm.C)) := own.out.ext ((Ext.refl _).alloc _)
          have CS5 : Hid (Cs (w2.alloc (.cells YC.toArray 73)) 138 (some ⟨w2.heap.size, 0, none⟩) 1 1 [YC]) := by
            have := cs_one (Cb.new w2 73 YC)
            rwa [L_y] at this
          have sz5 : w.heap.size ≤ (w2.alloc (.cells YC.toArray 73)).heap.size := ((X2.out.alloc _).size)
          have X5 : Hid (Ext w (w2.alloc (.cells YC.toArray 73))) := X2.out.alloc _
          have TK : Hid ((L.take k).map Wm.C ++ [YC] = (L.take (k + 1)).map Wm.C) := by
            unfold Hid; rw [tk.out (), List.map_append, hyc.out ()]; rfl
          have NE : Hid (∀ x ∈ L.take (k + 1), x.d.id ≠ id) := fun x hx => by
            rw [tk.out ()] at hx
            rcases List.mem_append.1 hx with q | q
            · exact hne.out x q
            · rw [List.mem_singleton.1 q, ← hiy.out ()]; exact hq
          have O5 : Hid (∀ x ∈ [YC], ∀ u ∈ x, u.oneCell' = true) := fun x hx u hu => by rw [List.mem_singleton.1 hx] at hu; exact O_y'.out u hu
          have hqf : (iy == id) = false := by simp [hq]
          clear PUT FIN hee own X2 hok cs hcb c0 dk tk hne hiy hyc O_y O_y' G0 hq
          go_wp2_with (first
            | ((with_reducible refine wpList_load_rowW (o := ⟨some 30, _, _, _, _, _⟩) ?_ 73 _ rfl s ?_ 73 YC.toArray (0, 0) _ ?_ Tryd.underlying73 ?_ ?_ ?_); (· rfl); (· rfl); (· exact k2.out); (· rfl); (· rw [S_y]; rfl); go_frame)
            | (refine wpList_slice_c rfl (t := 42) (e := 73) (s := 138) Tryd.underlying42 IM ZC (by omega) (by omega) (cs := YC) L_y rfl rfl rfl ?_; go_frame)
            | (refine wpList_append_cc rfl (t := 42) (e := 73) (s := 138) Tryd.underlying42 IM ZC (by omega) bytesM rfl rfl rfl OW5.out CS5.out O5.out (by omega) sz5 ?_; intro A4 c4 w4 o4 g4 b4; go_frame))
          go_round
          case rel => exact ⟨k + 1, A4, c4, by omega, by go_num, rfl, rfl, by rw [← TK.out]; exact o4, NE.out, Below.trans X5.out b4⟩
          case measure => simp [intOf]; omega
      · obtain rfl : k = n := by omega
        have D1 := dropI_none (L := L) (id := id) (fun x hx => hne x (by rw [← hLn, List.take_length]; exact hx))
        have P4 := Lib.hid (FIN.out 5 _ _ (by rw [hee.out (), D1.2]; rfl) D1.1.symm (PUT.out wr D k cc L xk (by rw [← hLn, List.take_length, hLn] at own; exact own) (fun x hx => hx)))
        have c4_ := kg.cell (j := 0) rfl
        have f4_ := kg.frozen 0
        clear PUT FIN D1 hee own hne xk kg hok cs hcb c0 c1
        go_wp2_with fail
        (try simp only [Exit.inBlock, Exit.then])
        (try rw [Exit.noGoto_ret])
        go_ret
        exact P4.out
end Go.Proofs.YtbnjmmefnjoofaaDoor
end
