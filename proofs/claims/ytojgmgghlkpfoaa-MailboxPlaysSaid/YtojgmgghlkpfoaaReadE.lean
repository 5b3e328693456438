import Derived.Test.YtojgmgghlkpfoaaPkC
/-
  head.ReadEnvelope.
-/
namespace Go.Proofs.Ytojgmgghlkpfoaa
open Go.ChangeShapes Go.WideShapes Go.ChangeAt Go.RowKit Go.Deep
set_option maxRecDepth 100000

def evz : List Value := evC 0 0 (List.replicate 32 0) (List.replicate 32 0) 0 0 none 0 0
theorem env_alloc (w : World) : (zeroValue 35).run Try.prog w = .ok (.agg evz.toArray) w := by kernel_rfl
theorem evz_len : evz.length = 69 := evC_len rfl rfl 0 0 0 0 none 0 0
theorem catchE_idle {p q : Addr} {w : World} :
    CallsD Try.prog 42 #[.pointer (some p), .pointer (some q)] .returning w fun e u' w' => e = .returned (.tuple #[]) ∧ u' = .returning ∧ Ext w w' := by
  refine callsD_of_wpS Try.func42 rfl fun c₀ cs hu => ?_
  apply wpS_seq
  apply wpS_region
  simp [wpOpsS, go_sem, recoverD, hu, Try.ntmps42, Exit.thenS]
  refine wpS_of_wp ?_
  go_wp2_with fail
  cases c₀
  simp_all [bodyPostS, results, Try.results42]
  first | exact Ext.refl _ | skip
set_option maxHeartbeats 1000000 in
theorem catchE_fault {p q : Nat} {w : World} {z : Int} {hd : List Value} {v : Value} (h1 : Cb w p 35 hd) (h2 : Cb w q 28 [v]) (hne : p ≠ q) (lh : hd.length = 69) :
    CallsD Try.prog 42 #[.pointer (some ⟨p, 0, none⟩), .pointer (some ⟨q, 0, none⟩)] (.panicking [faultE z]) w fun e u' w' => e = .returned (.tuple #[]) ∧ u' = .panicking [{ faultE z with recovered := true }] ∧ Cb w' p 35 evz ∧ Cb w' q 28 [.int .i64 z] ∧ ∀ B, B ≤ p → B ≤ q → Below B w w' := by
  have hbz : Try.prog.built 35 [] = some evz.toArray := by kernel_rfl
  have L_hz := evz_len
  have O_hz : Hid (evz.toArray.all (·.oneCell') = true) := by unfold Hid; decide +kernel
  replace hbz := Lib.hid hbz
  generalize evz = hz at *
  have S_hz : hz.toArray.size = 69 := by rw [List.size_toArray, L_hz]
  have S_hd : hd.toArray.size = 69 := by rw [List.size_toArray, lh]
  have EO := Lib.hid (errnoOf_calls (w := w) (n := z))
  replace h1 := Lib.hid h1
  replace h2 := Lib.hid h2
  refine callsD_of_wpS Try.func42 rfl fun c₀ cs hu => ?_
  apply wpS_seq
  apply wpS_region
  simp [wpOpsS, go_sem, recoverD, hu, faultE, Try.ntmps42, Exit.thenS]
  rw [show (#[Value.pointer (some ⟨p, 0, none⟩), Value.pointer (some ⟨q, 0, none⟩)] ++ ((Array.replicate 7 undef).setIfInBounds 1 (Value.iface 28 (.int .i64 z))).setIfInBounds 0 (Value.iface 28 (.int .i64 z))) = #[Value.pointer (some ⟨p, 0, none⟩), Value.pointer (some ⟨q, 0, none⟩), Value.iface 28 (.int .i64 z), Value.iface 28 (.int .i64 z), undef, undef, undef, undef, undef] from rfl]
  refine wpS_of_wp ?_
  go_wp2_with (refine wpList_build_as rfl _ _ rfl hz.toArray (by simp only [List.map_toArray, List.map_nil]; exact hbz.out) ?_; simp only [Act.put, List.setIfInBounds_toArray, List.set_cons_zero, List.set_cons_succ])
  refine EO.out.mono ?_
  rintro e w1 ⟨rfl, e1⟩
  have k1 := Lib.hid (h1.out.ext e1)
  have q1 := (h2.out.ext e1).row (r := p) (C := hz.toArray) (fun q_ => hne q_.symm)
  have c1 := q1.cell (j := 0) rfl
  have z1 := q1.frozen 0
  have f1 : Hid (Cb ((w1.setRow p hz.toArray).setCell ⟨q, 0, none⟩ (.int .i64 z)) p 35 hz ∧ Cb ((w1.setRow p hz.toArray).setCell ⟨q, 0, none⟩ (.int .i64 z)) q 28 [.int .i64 z]) :=
    ⟨(grown_setCell8.block p (by simpa using heap_lt k1.out) (fun q_ => hne (Option.some.inj q_))).trans (setRow_heap _ _ _ _ _ _ k1.out), q1.setCell⟩
  have f2 : Hid (∀ B, B ≤ p → B ≤ q → Below B w ((w1.setRow p hz.toArray).setCell ⟨q, 0, none⟩ (.int .i64 z))) := fun B hp hq => Below.setCell (below_setRow (e1.mono (Nat.le_of_lt (Nat.lt_of_le_of_lt hp (heap_lt h1.out)))) hp _) hq _
  clear EO e1 h1 h2 q1
  go_wp2_with (refine wpList_store_row rfl 35 _ _ rfl p hz.toArray rfl rfl 35 hd.toArray k1.out (by rw [S_hz]; rfl) (by rw [S_hz, S_hd]) O_hz.out ?_; simp only [Act.put])
  have F : Hid (Cb ((w1.setRow p hz.toArray).setCell ⟨q, 0, none⟩ (.int .i64 z)) p 35 hz ∧ Cb ((w1.setRow p hz.toArray).setCell ⟨q, 0, none⟩ (.int .i64 z)) q 28 [.int .i64 z] ∧ ∀ B, B ≤ p → B ≤ q → Below B w ((w1.setRow p hz.toArray).setCell ⟨q, 0, none⟩ (.int .i64 z))) := ⟨f1.out.1, f1.out.2, f2.out⟩
  clear f1 f2 c1 z1
  generalize (w1.setRow p hz.toArray).setCell ⟨q, 0, none⟩ (.int .i64 z) = WF at *
  simp [bodyPostS, results, Try.results42]
  exact F.out
theorem results_re {tmps : Array Value} {w : World} {p q : Nat} {hz : List Value} {z : Int} (hp : tmps.getD 2 undef = .pointer (some ⟨p, 0, none⟩)) (hq : tmps.getD 3 undef = .pointer (some ⟨q, 0, none⟩)) (k2 : Cb w p 35 hz) (k3 : Cb w q 28 [.int .i64 z]) (lh : hz.length = 69) :
    (results Try.f19 tmps).run Try.prog w = .ok (.tuple #[.agg hz.toArray, .int .i64 z]) w := by
  have S_hz : hz.toArray.size = 69 := by rw [List.size_toArray, lh]
  have l1 := run_loadVar_row w p 35 35 hz.toArray (0, 0) _ k2 Try.underlying35 rfl (by rw [S_hz]; rfl)
  have c3 := k3.cell (j := 0) rfl
  have l2 : (loadVar 28 ⟨q, 0, none⟩).run Try.prog w = .ok (.int .i64 z) w := by go_simp
  have hp' : tmps[2]?.getD undef = .pointer (some ⟨p, 0, none⟩) := by simpa using hp
  have hq' : tmps[3]?.getD undef = .pointer (some ⟨q, 0, none⟩) := by simpa using hq
  simp [results, Try.results19, hp', hq', asAddr, l1, l2, Sem.run_bind, Result.andThen]
set_option maxHeartbeats 1000000 in
theorem key_short {w : World} {g n c : Nat} {A : Option Addr} (h : Cb w g 73 [.slice A n c]) (hk : n < 32) : Calls Try.prog 44 #[.pointer (some ⟨g, 0, none⟩)] w fun e w' => e = .panicked [faultE 3] ∧ Ext w w' := by
  have TK : Hid (∀ (W : World), Ext w W → Calls Try.prog 45 #[.pointer (some ⟨g, 0, none⟩), .int .i64 32] W fun e w' => e = .panicked [faultE 3] ∧ Ext W w') := fun W e => take_short (k := 32) (h.ext e) hk (by omega)
  have hal := key_alloc
  generalize zeros32 = Z at *
  clear h
  go_enter Try.func44, Try.ntmps44
  go_upto_region 2 with fail
  refine wp_gen (fun W => Ext w W) (((Ext.refl w).alloc _).alloc _) ?_
  intro w0 x0
  have TK0 := Lib.hid (TK.out w0.drew x0.drew)
  clear TK
  replace x0 := Lib.hid x0.drew
  refine wp_region_seq (R := Ext) Ext.refl (fun _ _ _ => Ext.trans) [0, 1, 2, 3] [2, 3] [(0, 5, 16), (0, 6, 2), (2, 7, 64), (5, 8, 160)] (by kernel_rfl) (by kernel_rfl) (by kernel_rfl) rfl (by kernel_rfl) (by kernel_rfl) (fun _ _ d _ _ h => by cases d <;> exact h) ?_
  repeat (first | (refine seq_read (fun _ => True) (fun _ _ => trivial) _ (v := ?_) rfl rfl (by rfl) ?_ ?_; rotate_left; (· intro w' hF; go_simp; (try with_reducible rfl)); simp only [Act.put, List.setIfInBounds_toArray, List.set_cons_zero, List.set_cons_succ]) | (refine seq_skip _ rfl rfl (by rfl) ?_; simp only [Act.put, List.setIfInBounds_toArray, List.set_cons_zero, List.set_cons_succ]))
  generalize w0.drew = W at *
  refine seq_do _ rfl rfl (by rfl) (fun K hK => ?_)
  go_simp
  refine TK0.out.mono ?_
  rintro e0 w1 ⟨rfl, e1⟩
  exact ⟨rfl, rfl, x0.out.trans e1⟩
/-- What the bytes of an envelope may be. -/
def okX (xs : List UInt8) : Bool := okE (numN xs 1 : Int) (numN (xs.drop 1) 1 : Int) (numN (xs.drop 66) 4 : Int) (numN (xs.drop 70) 4 : Int) (xs.length - 76)
/-- The number of the error that ReadEnvelope hands back. -/
def reE (xs : List UInt8) : Int := if xs.length < 76 then 3 else if xs.length < 76 + numN (xs.drop 74) 2 then 3 else if decide (xs.length = 76 + numN (xs.drop 74) 2) && okX xs then 0 else 2
theorem reE_a {xs : List UInt8} (h : xs.length < 76) : reE xs = 3 := if_pos h
theorem reE_b {xs : List UInt8} (h : 76 ≤ xs.length) (k : xs.length < 76 + numN (xs.drop 74) 2) : reE xs = 3 := by unfold reE; rw [if_neg (by omega), if_pos k]
theorem reE_c {xs : List UInt8} (h : 76 + numN (xs.drop 74) 2 < xs.length) : reE xs = 2 := by unfold reE; rw [if_neg (by omega), if_neg (by omega), decide_eq_false (by omega)]; rfl
theorem reE_d {xs : List UInt8} (h : xs.length = 76 + numN (xs.drop 74) 2) (k : okX xs = false) : reE xs = 2 := by unfold reE; rw [if_neg (by omega), if_neg (by omega), k, Bool.and_false]; rfl
theorem reE_e {xs : List UInt8} (h : xs.length = 76 + numN (xs.drop 74) 2) (k : okX xs = true) : reE xs = 0 := by unfold reE; rw [if_neg (by omega), if_neg (by omega), k, decide_eq_true h]; rfl
/-- What ReadEnvelope hands back. -/
def RenvP (xs : List UInt8) (w : World) (e : Ending) (w' : World) : Prop :=
  Ext w w' ∧ ((reE xs ≠ 0 ∧ e = .returned (.tuple #[.agg evz.toArray, .int .i64 (reE xs)])) ∨
    (reE xs = 0 ∧ ∃ A m c, e = .returned (.tuple #[.agg (evC (numN xs 1 : Int) (numN (xs.drop 1) 1 : Int) ((xs.drop 2).take 32) ((xs.drop 34).take 32) (numN (xs.drop 66) 4 : Int) (numN (xs.drop 70) 4 : Int) A m c).toArray, .int .i64 0]) ∧ Bs w' A m c (xs.drop 76)))
theorem numN1_lt (xs : List UInt8) : numN xs 1 < 256 := by
  have h := ofLowL_lt (xs.take 1).reverse
  have hl : (xs.take 1).reverse.length ≤ 1 := by rw [List.length_reverse, List.length_take]; omega
  have h2 : 256 ^ (xs.take 1).reverse.length ≤ 256 ^ 1 := Nat.pow_le_pow_right (by omega) hl
  unfold numN
  omega
theorem numN2_lt (xs : List UInt8) : numN xs 2 < 65536 := by
  have h := ofLowL_lt (xs.take 2).reverse
  have hl : (xs.take 2).reverse.length ≤ 2 := by rw [List.length_reverse, List.length_take]; omega
  have h2 : 256 ^ (xs.take 2).reverse.length ≤ 256 ^ 2 := Nat.pow_le_pow_right (by omega) hl
  unfold numN
  omega
theorem Bs.setSame {w : World} {A : Option Addr} {n c r : Nat} {xs : List UInt8} {T : TypeId} {L : List Value} (h : Bs w A n c xs) (k : Cb w r T L) : Bs (w.setRow r L.toArray) A n c xs := by
  refine ⟨h.1, h.2.1, h.2.2.1, fun h0 => ?_⟩
  obtain ⟨b, off, hA, hb, hc⟩ := h.2.2.2 h0
  refine ⟨b, off, hA, by simpa using hb, fun j hj => ?_⟩
  rw [← hc j hj]
  have q : (w.setRow r L.toArray).heap[b]? = w.heap[b]? := by
    by_cases e : b = r
    · subst e; rw [setRow_heap _ _ _ _ _ _ k, k]
    · exact setRow_other _ _ _ _ e
  simp only [World.cell?, q]
theorem Bs.cell8 {w : World} {A : Option Addr} {n c g : Nat} {xs : List UInt8} {T : TypeId} {v u : Value} (h : Bs w A n c xs) (hg : Cb w g T [v]) (hv : ∀ i, v ≠ .int .u8 i) : Bs (w.setCell ⟨g, 0, none⟩ u) A n c xs := by
  refine ⟨h.1, h.2.1, h.2.2.1, fun h0 => ?_⟩
  obtain ⟨b, off, hA, hb, hc⟩ := h.2.2.2 h0
  have gr : w.grownBy (w.setCell ⟨g, 0, none⟩ u) (some g) := grown_setCell8
  have hne : b ≠ g := by
    intro q
    subst q
    have h1 := hc 0 h0
    rw [cell_of_row w b _ _ _ _ hg, List.getElem?_toArray] at h1
    match off, h1 with
    | 0, h1 => simp at h1; exact hv _ h1
    | k + 1, h1 => simp at h1
  have hq := gr.block b hb (fun q => hne (Option.some.inj q))
  refine ⟨b, off, hA, Nat.lt_of_lt_of_le hb gr.size, fun j hj => ?_⟩
  rw [← hc j hj]
  simp only [World.cell?, hq]
theorem own_past {w : World} {A : Option Addr} {n c p : Nat} {xs : List UInt8} {B o : Nat} {u : Value} (h : Own B w A n c xs) (hp : p < B) : Bs (w.setCell ⟨p, o, none⟩ u) A n c xs := by
  refine (h.kept (row := some p) grown_setCell8 ?_).bs
  right
  intro q
  have := h.ge p q
  omega
theorem grown_other {w w' : World} {g h : Nat} {T : TypeId} {L : List Value} (k : Cb w h T L) (e : w.grownBy w' (some g)) (hne : h ≠ g) : Cb w' h T L := (e.block _ (heap_lt k) (fun q => hne (Option.some.inj q))).trans k
theorem ext_grown_new {w a b : World} {g : Nat} (x : Ext w a) (e : a.grownBy b (some g)) (hg : w.heap.size ≤ g) : Ext w b := Below.trans x ⟨e.os, e.tape, e.output, e.size, fun i hi => e.block i (Nat.lt_of_lt_of_le hi x.size) (fun q => by have := Option.some.inj q; omega)⟩
set_option maxHeartbeats 16000000 in
theorem readEnv_calls {w : World} {n c : Nat} {A : Option Addr} {xs : List UInt8} (hb : Bs w A n c xs) :
    Calls Try.prog 19 #[.slice A n c] w (RenvP xs w) := by
  have hmf : ∀ (fn : Fn) (first cap : Array Value) (w : World), (Instr.makeFunc fn first cap).run Try.prog w = .ok (.func fn first cap) w := fun _ _ _ _ => rfl
  have lx : Hid (xs.length = n) := hb.1
  have CF := Lib.hid (fun (W : World) (p q : Nat) (hd : List Value) (v : Value) (z : Int) (h1 : Cb W p 35 hd) (h2 : Cb W q 28 [v]) (hne : p ≠ q) (lh : hd.length = 69) => catchE_fault (z := z) h1 h2 hne lh)
  have CI := Lib.hid (fun (W : World) (p q : Addr) => catchE_idle (p := p) (q := q) (w := W))
  have VE := Lib.hid (fun (W : World) (A : Option Addr) (m c : Nat) (hm : m ≤ 9223372036854775807) (h2 : 76 ≤ n) => validEnvelope_calls (w := W) (f := (numN xs 1 : Int)) (t := (numN (xs.drop 1) 1 : Int)) (p := (numN (xs.drop 66) 4 : Int)) (n := (numN (xs.drop 70) 4 : Int)) (cm := (xs.drop 2).take 32) (pk := (xs.drop 34).take 32) (A := A) (m := m) (c := c) (by rw [List.length_take, List.length_drop, lx.out]; omega) (by rw [List.length_take, List.length_drop, lx.out]; omega) hm)
  have BX : Hid (∀ s, Ext w s → Bs s A n c xs) := fun s e => hb.ext e
  have OK0 : Hid (∀ m, 76 + m = n → okX xs = okE (numN xs 1 : Int) (numN (xs.drop 1) 1 : Int) (numN (xs.drop 66) 4 : Int) (numN (xs.drop 70) 4 : Int) m) := fun m h => by unfold okX; rw [lx.out, show n - 76 = m by omega]
  have hal := env_alloc
  have hea : evz = [.int .i64 0, .int .i64 0] ++ (cellsOf (List.replicate 32 0) ++ (hdC (List.replicate 32 0) 0 0 ++ [.slice none 0 0])) := rfl
  have L_ez := evz_len
  clear hb
  obtain ⟨ez, hez⟩ : ∃ ez, ez = evz := ⟨_, rfl⟩
  rw [← hez] at hal L_ez hea
  replace hez := Lib.hid hez
  replace hea := Lib.hid (fun _ : Unit => hea)
  go_enter_defers Try.func19, Try.ntmps19
  go_upto_region 3 with fail
  refine wp_gen (fun W => Cb W w.heap.size 35 ez ∧ Cb W (w.heap.size + 1) 28 [.int .i64 0] ∧ Cb W (w.heap.size + 1 + 1) 73 [.slice A n c] ∧ Ext w W) ⟨heap_alloc30 _ _ _ _, heap_alloc31 _ _ _ _, heap_alloc32 _ _ _ _, (((Ext.refl w).alloc _).alloc _).alloc _⟩ ?_
  rintro w0 ⟨kL0, kE0, kR0, x0⟩
  replace kL0 := Lib.hid kL0
  replace kE0 := Lib.hid kE0
  replace kR0 := Lib.hid kR0
  replace x0 := Lib.hid x0
  have N1 := Lib.hid (fun (W : World) (g : Nat) (h : Cb W g 73 [.slice A n c]) (b : Bs W A n c xs) (hk : 1 ≤ n) => number_ok (k := 1) h b hk (by omega) (by have := numN1_lt xs; omega))
  by_cases h1 : n < 1
  · clear N1
    go_wp2_with fail
    refine (number_short kR0.out h1 (by omega)).mono ?_
    rintro e u_ ⟨rfl, e_⟩
    have CC := Lib.hid (CF.out u_ w.heap.size (w.heap.size + 1) _ (.int .i64 0) 3 (kL0.out.ext e_) (kE0.out.ext e_) (by omega) L_ez)
    have XX := Lib.hid (x0.out.trans e_)
    have RE : Hid (reE xs = 3) := reE_a (by have := lx.out; omega)
    refine leaves_cons (f := 42) (args := #[.pointer (some ⟨w.heap.size, 0, none⟩), .pointer (some ⟨w.heap.size + 1, 0, none⟩)]) (by simp) (by simp [go_sem]) ?_
    refine CC.out.mono ?_
    rintro e u' w2 ⟨rfl, rfl, k2_, k3_, x2_⟩
    refine ⟨_, results_re rfl rfl k2_ k3_ evz_len, ?_⟩
    exact ⟨Below.trans XX.out (x2_ _ (Nat.le_refl _) (by omega)), .inl (by rw [RE.out]; exact ⟨by decide, rfl⟩)⟩
  have N1c := Lib.hid (N1.out _ _ kR0.out (BX.out _ x0.out) (by omega))
  clear N1
  go_wp2_with fail
  refine N1c.out.mono ?_
  rintro e w1 ⟨rfl, A1, kR, _, g1, cut1⟩
  obtain ⟨kL, kE, x1⟩ : Cb w1 w.heap.size 35 ez ∧ Cb w1 (w.heap.size + 1) 28 [.int .i64 0] ∧ Ext w w1 := ⟨grown_other kL0.out g1 (by omega), grown_other kE0.out g1 (by omega), ext_grown_new x0.out g1 (by omega)⟩
  have c0 := kL.cell (j := 0) (v := .int .i64 0) (by rw [hea.out ()]; rfl)
  have z0 := kL.frozen 0
  have S1 : Hid (∀ v, Cb (w1.setCell ⟨w.heap.size, 0, none⟩ (.int .i64 v)) w.heap.size 35 (ez.set 0 (.int .i64 v)) ∧ Cb (w1.setCell ⟨w.heap.size, 0, none⟩ (.int .i64 v)) (w.heap.size + 1) 28 [.int .i64 0] ∧ Cb (w1.setCell ⟨w.heap.size, 0, none⟩ (.int .i64 v)) (w.heap.size + 1 + 1) 73 [.slice A1 (n - 1) (c - 1)] ∧ Ext w (w1.setCell ⟨w.heap.size, 0, none⟩ (.int .i64 v))) := fun v => ⟨kL.setCell, grown_other kE grown_setCell8 (by omega), grown_other kR grown_setCell8 (by omega), Ext.setCell x1 (Nat.le_refl _) _⟩
  replace cut1 : Hid (∀ s, Ext w s → Bs s A1 (n - 1) (c - 1) (xs.drop 1)) := fun s e => cut1 s (BX.out s e)
  clear kL kE kR x1 g1 kL0 kE0 kR0 x0 N1c
  generalize h_v0 : numN xs 1 = v0 at *
  replace h_v0 := Lib.hid h_v0
  go_upto_region 4 with fail
  refine wp_gen (fun W => Cb W w.heap.size 35 (ez.set 0 (.int .i64 (v0 : Int))) ∧ Cb W (w.heap.size + 1) 28 [.int .i64 0] ∧ Cb W (w.heap.size + 1 + 1) 73 [.slice A1 (n - 1) (c - 1)] ∧ Ext w W) (S1.out _) ?_
  clear S1 c0 z0
  have L_e1 : (ez.set 0 (.int .i64 (v0 : Int))).length = 69 := by rw [List.length_set, L_ez]
  have he1 : Hid (∀ _ : Unit, ez.set 0 (.int .i64 (v0 : Int)) = [.int .i64 (v0 : Int), .int .i64 0] ++ (cellsOf (List.replicate 32 0) ++ (hdC (List.replicate 32 0) 0 0 ++ [.slice none 0 0]))) := fun _ => by rw [hea.out ()]; rfl
  generalize ez.set 0 (.int .i64 (v0 : Int)) = e1_ at *
  rintro w2 ⟨kL2, kE2, kR2, x2⟩
  replace kL2 := Lib.hid kL2
  replace kE2 := Lib.hid kE2
  replace kR2 := Lib.hid kR2
  replace x2 := Lib.hid x2
  have N1 := Lib.hid (fun (W : World) (g : Nat) (h : Cb W g 73 [.slice A1 (n - 1) (c - 1)]) (b : Bs W A1 (n - 1) (c - 1) (xs.drop 1)) (hk : 1 ≤ n - 1) => number_ok (k := 1) h b hk (by omega) (by have := numN1_lt (xs.drop 1); omega))
  by_cases h2 : n - 1 < 1
  · clear N1
    go_wp2_with fail
    refine (number_short kR2.out h2 (by omega)).mono ?_
    rintro e u_ ⟨rfl, e_⟩
    have CC := Lib.hid (CF.out u_ w.heap.size (w.heap.size + 1) _ (.int .i64 0) 3 (kL2.out.ext e_) (kE2.out.ext e_) (by omega) L_e1)
    have XX := Lib.hid (x2.out.trans e_)
    have RE : Hid (reE xs = 3) := reE_a (by have := lx.out; omega)
    refine leaves_cons (f := 42) (args := #[.pointer (some ⟨w.heap.size, 0, none⟩), .pointer (some ⟨w.heap.size + 1, 0, none⟩)]) (by simp) (by simp [go_sem]) ?_
    refine CC.out.mono ?_
    rintro e u' w2 ⟨rfl, rfl, k2_, k3_, x2_⟩
    refine ⟨_, results_re rfl rfl k2_ k3_ evz_len, ?_⟩
    exact ⟨Below.trans XX.out (x2_ _ (Nat.le_refl _) (by omega)), .inl (by rw [RE.out]; exact ⟨by decide, rfl⟩)⟩
  have N1c := Lib.hid (N1.out _ _ kR2.out (cut1.out _ x2.out) (by omega))
  clear N1
  go_wp2_with fail
  refine N1c.out.mono ?_
  rintro e w3 ⟨rfl, A2, kR, _, g1, cut2⟩
  obtain ⟨kL, kE, x3⟩ : Cb w3 w.heap.size 35 e1_ ∧ Cb w3 (w.heap.size + 1) 28 [.int .i64 0] ∧ Ext w w3 := ⟨grown_other kL2.out g1 (by omega), grown_other kE2.out g1 (by omega), ext_grown_new x2.out g1 (by omega)⟩
  have c0 := kL.cell (j := 1) (v := .int .i64 0) (by rw [he1.out ()]; rfl)
  have z0 := kL.frozen 1
  have S1 : Hid (∀ v, Cb (w3.setCell ⟨w.heap.size, 1, none⟩ (.int .i64 v)) w.heap.size 35 (e1_.set 1 (.int .i64 v)) ∧ Cb (w3.setCell ⟨w.heap.size, 1, none⟩ (.int .i64 v)) (w.heap.size + 1) 28 [.int .i64 0] ∧ Cb (w3.setCell ⟨w.heap.size, 1, none⟩ (.int .i64 v)) (w.heap.size + 1 + 1) 73 [.slice A2 (n - 1 - 1) (c - 1 - 1)] ∧ Ext w (w3.setCell ⟨w.heap.size, 1, none⟩ (.int .i64 v))) := fun v => ⟨kL.setCell, grown_other kE grown_setCell8 (by omega), grown_other kR grown_setCell8 (by omega), Ext.setCell x3 (Nat.le_refl _) _⟩
  replace cut2 : Hid (∀ s, Ext w s → Bs s A2 (n - 1 - 1) (c - 1 - 1) (xs.drop 2)) := fun s e => by have := cut2 s (cut1.out s e); rwa [List.drop_drop] at this
  clear kL kE kR x3 g1 kL2 kE2 kR2 x2 N1c cut1
  generalize h_v1 : numN (xs.drop 1) 1 = v1 at *
  replace h_v1 := Lib.hid h_v1
  go_upto_region 5 with fail
  refine wp_gen (fun W => Cb W w.heap.size 35 (e1_.set 1 (.int .i64 (v1 : Int))) ∧ Cb W (w.heap.size + 1) 28 [.int .i64 0] ∧ Cb W (w.heap.size + 1 + 1) 73 [.slice A2 (n - 1 - 1) (c - 1 - 1)] ∧ Ext w W) (S1.out _) ?_
  clear S1 c0 z0
  have L_e2 : (e1_.set 1 (.int .i64 (v1 : Int))).length = 69 := by rw [List.length_set, L_e1]
  have he2 : Hid (∀ _ : Unit, e1_.set 1 (.int .i64 (v1 : Int)) = [.int .i64 (v0 : Int), .int .i64 (v1 : Int)] ++ (cellsOf (List.replicate 32 0) ++ (hdC (List.replicate 32 0) 0 0 ++ [.slice none 0 0]))) := fun _ => by rw [he1.out ()]; rfl
  generalize e1_.set 1 (.int .i64 (v1 : Int)) = e2_ at *
  clear he1
  rintro w4 ⟨kL4, kE4, kR4, x4⟩
  replace kL4 := Lib.hid kL4
  replace kE4 := Lib.hid kE4
  replace kR4 := Lib.hid kR4
  replace x4 := Lib.hid x4
  have N1 := Lib.hid (fun (W : World) (g : Nat) (h : Cb W g 73 [.slice A2 (n - 1 - 1) (c - 1 - 1)]) (b : Bs W A2 (n - 1 - 1) (c - 1 - 1) (xs.drop 2)) (hk : 32 ≤ n - 1 - 1) => key_ok h b hk)
  by_cases h3 : n - 1 - 1 < 32
  · clear N1
    go_wp2_with fail
    refine (key_short kR4.out h3).mono ?_
    rintro e u_ ⟨rfl, e_⟩
    have CC := Lib.hid (CF.out u_ w.heap.size (w.heap.size + 1) _ (.int .i64 0) 3 (kL4.out.ext e_) (kE4.out.ext e_) (by omega) L_e2)
    have XX := Lib.hid (x4.out.trans e_)
    have RE : Hid (reE xs = 3) := reE_a (by have := lx.out; omega)
    refine leaves_cons (f := 42) (args := #[.pointer (some ⟨w.heap.size, 0, none⟩), .pointer (some ⟨w.heap.size + 1, 0, none⟩)]) (by simp) (by simp [go_sem]) ?_
    refine CC.out.mono ?_
    rintro e u' w2 ⟨rfl, rfl, k2_, k3_, x2_⟩
    refine ⟨_, results_re rfl rfl k2_ k3_ evz_len, ?_⟩
    exact ⟨Below.trans XX.out (x2_ _ (Nat.le_refl _) (by omega)), .inl (by rw [RE.out]; exact ⟨by decide, rfl⟩)⟩
  have N1c := Lib.hid (N1.out _ _ kR4.out (cut2.out _ x4.out) (by omega))
  have lcm : ((xs.drop 2).take 32).length = 32 := by rw [List.length_take, List.length_drop, lx.out]; omega
  clear N1
  go_wp2_with fail
  refine N1c.out.mono ?_
  rintro e w5 ⟨rfl, A3, kR, _, g1, cut3⟩
  obtain ⟨kL, kE, x5⟩ : Cb w5 w.heap.size 35 e2_ ∧ Cb w5 (w.heap.size + 1) 28 [.int .i64 0] ∧ Ext w w5 := ⟨grown_other kL4.out g1 (by omega), grown_other kE4.out g1 (by omega), ext_grown_new x4.out g1 (by omega)⟩
  generalize h_cm : (xs.drop 2).take 32 = cm at *
  replace h_cm := Lib.hid h_cm
  have S_cm : (cellsOf cm).toArray.size = 32 := by simp [cellsOf_len, lcm]
  have O_cm := cellsOf_one cm
  have th : Hid (w5.there w.heap.size 2 32) := kL.there (by rw [L_e2]; omega)
  have S1 : Hid (Cb (w5.setCells w.heap.size 2 (cellsOf cm)) w.heap.size 35 ([.int .i64 (v0 : Int), .int .i64 (v1 : Int)] ++ (cellsOf cm ++ (hdC (List.replicate 32 0) 0 0 ++ [.slice none 0 0]))) ∧ Cb (w5.setCells w.heap.size 2 (cellsOf cm)) (w.heap.size + 1) 28 [.int .i64 0] ∧ Cb (w5.setCells w.heap.size 2 (cellsOf cm)) (w.heap.size + 1 + 1) 73 [.slice A3 (n - 1 - 1 - 32) (c - 1 - 1 - 32)] ∧ Ext w (w5.setCells w.heap.size 2 (cellsOf cm))) := ⟨kL.put (he2.out ()) rfl (by rw [cellsOf_len, cellsOf_len, lcm]; rfl), grown_other kE grown_setCells (by omega), grown_other kR grown_setCells (by omega), ext_grown_new x5 grown_setCells (Nat.le_refl _)⟩
  replace cut3 : Hid (∀ s, Ext w s → Bs s A3 (n - 1 - 1 - 32) (c - 1 - 1 - 32) (xs.drop 34)) := fun s e => by have := cut3 s (cut2.out s e); rwa [List.drop_drop] at this
  clear kL kE kR x5 g1 kL4 kE4 kR4 x4 N1c cut2
  go_upto_region 6 with (refine wpList_store_mid rfl 23 _ _ rfl w.heap.size 2 (cellsOf cm).toArray rfl rfl (by rw [S_cm]; exact th.out) (by rw [S_cm]; rfl) O_cm ?_; simp only [Act.put])
  refine wp_gen (fun W => Cb W w.heap.size 35 ([.int .i64 (v0 : Int), .int .i64 (v1 : Int)] ++ (cellsOf cm ++ (hdC (List.replicate 32 0) 0 0 ++ [.slice none 0 0]))) ∧ Cb W (w.heap.size + 1) 28 [.int .i64 0] ∧ Cb W (w.heap.size + 1 + 1) 73 [.slice A3 (n - 1 - 1 - 32) (c - 1 - 1 - 32)] ∧ Ext w W) S1.out ?_
  clear S1 th
  have L_e3 : ([Value.int .i64 (v0 : Int), .int .i64 (v1 : Int)] ++ (cellsOf cm ++ (hdC (List.replicate 32 0) 0 0 ++ [Value.slice none 0 0]))).length = 69 := by simp [cellsOf_len, lcm, hdC]
  have he3 : Hid (∀ _ : Unit, [Value.int .i64 (v0 : Int), .int .i64 (v1 : Int)] ++ (cellsOf cm ++ (hdC (List.replicate 32 0) 0 0 ++ [.slice none 0 0])) = ([.int .i64 (v0 : Int), .int .i64 (v1 : Int)] ++ cellsOf cm) ++ (hdC (List.replicate 32 0) 0 0 ++ [.slice none 0 0])) := fun _ => by rw [List.append_assoc]
  have l34 : ([Value.int .i64 (v0 : Int), .int .i64 (v1 : Int)] ++ cellsOf cm).length = 34 := by simp [cellsOf_len, lcm]
  generalize [Value.int .i64 (v0 : Int), Value.int .i64 (v1 : Int)] ++ (cellsOf cm ++ (hdC (List.replicate 32 0) 0 0 ++ [Value.slice none 0 0])) = e3_ at *
  clear he2
  rintro w6 ⟨kL6, kE6, kR6, x6⟩
  replace kL6 := Lib.hid kL6
  replace kE6 := Lib.hid kE6
  replace kR6 := Lib.hid kR6
  replace x6 := Lib.hid x6
  have N1 := Lib.hid (fun (W : World) (g : Nat) (h : Cb W g 73 [.slice A3 (n - 1 - 1 - 32) (c - 1 - 1 - 32)]) (b : Bs W A3 (n - 1 - 1 - 32) (c - 1 - 1 - 32) (xs.drop 34)) (hk : 40 ≤ n - 1 - 1 - 32) => head_ok h b hk)
  by_cases h4 : n - 1 - 1 - 32 < 40
  · clear N1
    go_wp2_with fail
    refine (head_short kR6.out h4).mono ?_
    rintro e u_ ⟨rfl, e_⟩
    have CC := Lib.hid (CF.out u_ w.heap.size (w.heap.size + 1) _ (.int .i64 0) 3 (kL6.out.ext e_) (kE6.out.ext e_) (by omega) L_e3)
    have XX := Lib.hid (x6.out.trans e_)
    have RE : Hid (reE xs = 3) := reE_a (by have := lx.out; omega)
    refine leaves_cons (f := 42) (args := #[.pointer (some ⟨w.heap.size, 0, none⟩), .pointer (some ⟨w.heap.size + 1, 0, none⟩)]) (by simp) (by simp [go_sem]) ?_
    refine CC.out.mono ?_
    rintro e u' w2 ⟨rfl, rfl, k2_, k3_, x2_⟩
    refine ⟨_, results_re rfl rfl k2_ k3_ evz_len, ?_⟩
    exact ⟨Below.trans XX.out (x2_ _ (Nat.le_refl _) (by omega)), .inl (by rw [RE.out]; exact ⟨by decide, rfl⟩)⟩
  have N1c := Lib.hid (N1.out _ _ kR6.out (cut3.out _ x6.out) (by omega))
  clear N1
  simp only [List.drop_drop, Nat.reduceAdd] at N1c
  have lpk : ((xs.drop 34).take 32).length = 32 := by rw [List.length_take, List.length_drop, lx.out]; omega
  generalize h_pk : (xs.drop 34).take 32 = pk at *
  replace h_pk := Lib.hid h_pk
  generalize h_vp : numN (xs.drop 66) 4 = vp at *
  replace h_vp := Lib.hid h_vp
  generalize h_vn : numN (xs.drop 70) 4 = vn at *
  replace h_vn := Lib.hid h_vn
  go_wp2_with fail
  refine N1c.out.mono ?_
  rintro e w7 ⟨rfl, A4, kR, _, g1, cut4⟩
  obtain ⟨kL, kE, x7⟩ : Cb w7 w.heap.size 35 e3_ ∧ Cb w7 (w.heap.size + 1) 28 [.int .i64 0] ∧ Ext w w7 := ⟨grown_other kL6.out g1 (by omega), grown_other kE6.out g1 (by omega), ext_grown_new x6.out g1 (by omega)⟩
  have L_hd := hdC_len lpk (vp : Int) (vn : Int)
  have O_hd : Hid ((hdC pk (vp : Int) (vn : Int)).toArray.all (·.oneCell') = true) := one_cells fun v hv => by
    rcases List.mem_append.1 hv with q | q
    · exact one_mem _ v q
    · simp at q; rcases q with rfl | rfl <;> rfl
  have L_hz0 : (hdC (List.replicate 32 0) 0 0).length = 34 := hdC_len rfl 0 0
  have S1 : Hid (Cb (w7.setCells w.heap.size 34 (hdC pk (vp : Int) (vn : Int))) w.heap.size 35 (([.int .i64 (v0 : Int), .int .i64 (v1 : Int)] ++ cellsOf cm) ++ (hdC pk (vp : Int) (vn : Int) ++ [.slice none 0 0])) ∧ Cb (w7.setCells w.heap.size 34 (hdC pk (vp : Int) (vn : Int))) (w.heap.size + 1) 28 [.int .i64 0] ∧ Cb (w7.setCells w.heap.size 34 (hdC pk (vp : Int) (vn : Int))) (w.heap.size + 1 + 1) 73 [.slice A4 (n - 1 - 1 - 32 - 40) (c - 1 - 1 - 32 - 40)] ∧ Ext w (w7.setCells w.heap.size 34 (hdC pk (vp : Int) (vn : Int)))) := ⟨kL.put (he3.out ()) l34 (by rw [L_hz0, L_hd]), grown_other kE grown_setCells (by omega), grown_other kR grown_setCells (by omega), ext_grown_new x7 grown_setCells (Nat.le_refl _)⟩
  have th : Hid (w7.there w.heap.size 34 34) := kL.there (by rw [L_e3]; omega)
  replace cut4 : Hid (∀ s, Ext w s → Bs s A4 (n - 1 - 1 - 32 - 40) (c - 1 - 1 - 32 - 40) (xs.drop 74)) := fun s e => cut4 s (cut3.out s e)
  clear kL kE kR x7 g1 kL6 kE6 kR6 x6 N1c cut3 he3
  obtain ⟨hd, hhd⟩ : ∃ hd, hd = hdC pk (vp : Int) (vn : Int) := ⟨_, rfl⟩
  rw [← hhd] at S1 O_hd L_hd ⊢
  have S_hd : hd.toArray.size = 34 := by rw [List.size_toArray, L_hd]
  replace hhd := Lib.hid hhd
  go_upto_region 7 with (refine wpList_store_mid rfl 25 _ _ rfl w.heap.size 34 hd.toArray rfl rfl (by rw [S_hd]; exact th.out) (by rw [S_hd]; rfl) O_hd.out ?_; simp only [Act.put])
  refine wp_gen (fun W => Cb W w.heap.size 35 (([.int .i64 (v0 : Int), .int .i64 (v1 : Int)] ++ cellsOf cm) ++ (hd ++ [.slice none 0 0])) ∧ Cb W (w.heap.size + 1) 28 [.int .i64 0] ∧ Cb W (w.heap.size + 1 + 1) 73 [.slice A4 (n - 1 - 1 - 32 - 40) (c - 1 - 1 - 32 - 40)] ∧ Ext w W) S1.out ?_
  clear S1 th
  have L_e4 : (([Value.int .i64 (v0 : Int), .int .i64 (v1 : Int)] ++ cellsOf cm) ++ (hd ++ [Value.slice none 0 0])).length = 69 := by rw [List.length_append, l34, List.length_append, L_hd]; rfl
  have he4 : Hid (∀ _ : Unit, ([Value.int .i64 (v0 : Int), .int .i64 (v1 : Int)] ++ cellsOf cm) ++ (hd ++ [.slice none 0 0]) = (([.int .i64 (v0 : Int), .int .i64 (v1 : Int)] ++ cellsOf cm) ++ hd) ++ ([.slice none 0 0] ++ [])) := fun _ => by simp
  have l68 : (([Value.int .i64 (v0 : Int), .int .i64 (v1 : Int)] ++ cellsOf cm) ++ hd).length = 68 := by rw [List.length_append, l34, L_hd]
  generalize ([Value.int .i64 (v0 : Int), Value.int .i64 (v1 : Int)] ++ cellsOf cm) ++ (hd ++ [Value.slice none 0 0]) = e4_ at *
  rintro w8 ⟨kL8, kE8, kR8, x8⟩
  replace kL8 := Lib.hid kL8
  replace kE8 := Lib.hid kE8
  replace kR8 := Lib.hid kR8
  replace x8 := Lib.hid x8
  have N1 := Lib.hid (fun (W : World) (g : Nat) (h : Cb W g 73 [.slice A4 (n - 1 - 1 - 32 - 40) (c - 1 - 1 - 32 - 40)]) (b : Bs W A4 (n - 1 - 1 - 32 - 40) (c - 1 - 1 - 32 - 40) (xs.drop 74)) (hk : 2 ≤ n - 1 - 1 - 32 - 40) => number_ok (k := 2) h b hk (by omega) (by have := numN2_lt (xs.drop 74); omega))
  have RB := Lib.hid (fun (h : 76 ≤ n) (k : n < 76 + numN (xs.drop 74) 2) => reE_b (xs := xs) (by rw [lx.out]; exact h) (by rw [lx.out]; exact k))
  have RC := Lib.hid (fun (k : 76 + numN (xs.drop 74) 2 < n) => reE_c (xs := xs) (by rw [lx.out]; exact k))
  have RD := Lib.hid (fun (k : n = 76 + numN (xs.drop 74) 2) => reE_d (xs := xs) (by rw [lx.out]; exact k))
  have RE_ := Lib.hid (fun (k : n = 76 + numN (xs.drop 74) 2) => reE_e (xs := xs) (by rw [lx.out]; exact k))
  have ltm := numN2_lt (xs.drop 74)
  by_cases h5 : n - 1 - 1 - 32 - 40 < 2
  · clear N1
    go_wp2_with fail
    refine (number_short kR8.out h5 (by omega)).mono ?_
    rintro e u_ ⟨rfl, e_⟩
    have CC := Lib.hid (CF.out u_ w.heap.size (w.heap.size + 1) _ (.int .i64 0) 3 (kL8.out.ext e_) (kE8.out.ext e_) (by omega) L_e4)
    have XX := Lib.hid (x8.out.trans e_)
    have RE : Hid (reE xs = 3) := reE_a (by have := lx.out; omega)
    refine leaves_cons (f := 42) (args := #[.pointer (some ⟨w.heap.size, 0, none⟩), .pointer (some ⟨w.heap.size + 1, 0, none⟩)]) (by simp) (by simp [go_sem]) ?_
    refine CC.out.mono ?_
    rintro e u' w2 ⟨rfl, rfl, k2_, k3_, x2_⟩
    refine ⟨_, results_re rfl rfl k2_ k3_ evz_len, ?_⟩
    exact ⟨Below.trans XX.out (x2_ _ (Nat.le_refl _) (by omega)), .inl (by rw [RE.out]; exact ⟨by decide, rfl⟩)⟩
  have N1c := Lib.hid (N1.out _ _ kR8.out (cut4.out _ x8.out) (by omega))
  clear N1
  generalize numN (xs.drop 74) 2 = m at *
  go_wp2_with fail
  refine N1c.out.mono ?_
  rintro e w9 ⟨rfl, A5, kR, _, g1, cut5⟩
  have kL9 : Hid (Cb w9 w.heap.size 35 e4_) := grown_other kL8.out g1 (by omega)
  have kE9 : Hid (Cb w9 (w.heap.size + 1) 28 [.int .i64 0]) := grown_other kE8.out g1 (by omega)
  have x9 : Hid (Ext w w9) := ext_grown_new x8.out g1 (by omega)
  replace cut5 : Hid (∀ s, Ext w s → Bs s A5 (n - 1 - 1 - 32 - 40 - 2) (c - 1 - 1 - 32 - 40 - 2) (xs.drop 76)) := fun s e => by have := cut5 s (cut4.out s e); rwa [List.drop_drop] at this
  replace kR := Lib.hid kR
  clear kL8 kE8 kR8 x8 g1 N1c cut4
  have N1 := Lib.hid (fun (W : World) (g : Nat) (h : Cb W g 73 [.slice A5 (n - 1 - 1 - 32 - 40 - 2) (c - 1 - 1 - 32 - 40 - 2)]) (b : Bs W A5 (n - 1 - 1 - 32 - 40 - 2) (c - 1 - 1 - 32 - 40 - 2) (xs.drop 76)) (hk : m ≤ n - 1 - 1 - 32 - 40 - 2) => take_ok (k := m) h b hk (by omega))
  by_cases h6 : n - 1 - 1 - 32 - 40 - 2 < m
  · clear N1
    go_wp2_with fail
    refine (take_short kR.out h6 (by omega)).mono ?_
    rintro e u_ ⟨rfl, e_⟩
    have CC := Lib.hid (CF.out u_ w.heap.size (w.heap.size + 1) _ (.int .i64 0) 3 (kL9.out.ext e_) (kE9.out.ext e_) (by omega) L_e4)
    have XX := Lib.hid (x9.out.trans e_)
    have RE : Hid (reE xs = 3) := RB.out (by omega) (by omega)
    refine leaves_cons (f := 42) (args := #[.pointer (some ⟨w.heap.size, 0, none⟩), .pointer (some ⟨w.heap.size + 1, 0, none⟩)]) (by simp) (by simp [go_sem]) ?_
    refine CC.out.mono ?_
    rintro e u' w2 ⟨rfl, rfl, k2_, k3_, x2_⟩
    refine ⟨_, results_re rfl rfl k2_ k3_ evz_len, ?_⟩
    exact ⟨Below.trans XX.out (x2_ _ (Nat.le_refl _) (by omega)), .inl (by rw [RE.out]; exact ⟨by decide, rfl⟩)⟩
  have N1c := Lib.hid (N1.out _ _ kR.out (cut5.out _ x9.out) (by omega))
  clear N1
  go_wp2_with fail
  refine N1c.out.mono ?_
  rintro e wa ⟨rfl, A6, kR, bt_, _, g1, cut6⟩
  have kLa : Hid (Cb wa w.heap.size 35 e4_) := grown_other kL9.out g1 (by omega)
  have kEa : Hid (Cb wa (w.heap.size + 1) 28 [.int .i64 0]) := grown_other kE9.out g1 (by omega)
  have xa : Hid (Ext w wa) := ext_grown_new x9.out g1 (by omega)
  have ra : w.heap.size + 3 ≤ wa.heap.size := by have := kR.lt; omega
  replace kR := Lib.hid kR
  replace bt_ := Lib.hid bt_
  clear kL9 kE9 x9 g1 N1c cut5 cut6
  go_upto_region 8 with (at_builtin; (with_reducible refine wpList_append_bs rfl (B := w.heap.size + 3) (s := .const (.slice none 0 0)) (x := .tmp 17) rfl rfl rfl (Own.nil _ _) bt_.out (by omega) ra ?_); intro Ab cb wb ob gb bb; simp only [Nat.zero_add, List.nil_append] at ob ⊢; clear gb; have kLb := kLa.out.kept bb (by omega); have c0 := kLb.cell (j := 68) (v := .slice none 0 0) (by rw [he4.out (), List.getElem?_append_right (by omega), l68]; rfl); have z0 := kLb.frozen 68; replace kLb := Lib.hid kLb; replace bb := Lib.hid bb; replace ob := Lib.hid ob; simp only [Act.put, List.setIfInBounds_toArray, List.set_cons_zero, List.set_cons_succ]; skip)
  have lbm := ob.out.bs
  obtain ⟨hLe, L_e5⟩ : (e4_.set 68 (.slice Ab m cb)) = evC (v0 : Int) (v1 : Int) cm pk (vp : Int) (vn : Int) Ab m cb ∧ (evC (v0 : Int) (v1 : Int) cm pk (vp : Int) (vn : Int) Ab m cb).length = 69 := by
    refine ⟨?_, evC_len lcm lpk _ _ _ _ _ _ _⟩
    rw [he4.out (), List.set_append_right _ _ (by omega), l68]
    unfold evC
    rw [← hhd.out]
    simp
  have S1 : Hid (Cb (wb.setCell ⟨w.heap.size, 68, none⟩ (.slice Ab m cb)) w.heap.size 35 (evC (v0 : Int) (v1 : Int) cm pk (vp : Int) (vn : Int) Ab m cb) ∧ Cb (wb.setCell ⟨w.heap.size, 68, none⟩ (.slice Ab m cb)) (w.heap.size + 1) 28 [.int .i64 0] ∧ Cb (wb.setCell ⟨w.heap.size, 68, none⟩ (.slice Ab m cb)) (w.heap.size + 1 + 1) 73 [.slice A6 (n - 1 - 1 - 32 - 40 - 2 - m) (c - 1 - 1 - 32 - 40 - 2 - m)] ∧ Bs (wb.setCell ⟨w.heap.size, 68, none⟩ (.slice Ab m cb)) Ab m cb ((xs.drop 76).take m) ∧ Ext w (wb.setCell ⟨w.heap.size, 68, none⟩ (.slice Ab m cb))) :=
    ⟨by have := kLb.out.setCell (o := 68) (v := .slice Ab m cb); rwa [hLe] at this, grown_other (kEa.out.kept bb.out (by omega)) grown_setCell8 (by omega), grown_other (kR.out.kept bb.out (by omega)) grown_setCell8 (by omega),
     own_past ob.out (by omega), Ext.setCell (Below.trans xa.out (bb.out.mono (by omega))) (Nat.le_refl _) _⟩
  clear hLe lbm kLb kLa kEa xa kR c0 z0 bb ob bt_
  refine wp_gen (fun W => Cb W w.heap.size 35 (evC (v0 : Int) (v1 : Int) cm pk (vp : Int) (vn : Int) Ab m cb) ∧ Cb W (w.heap.size + 1) 28 [.int .i64 0] ∧ Cb W (w.heap.size + 1 + 1) 73 [.slice A6 (n - 1 - 1 - 32 - 40 - 2 - m) (c - 1 - 1 - 32 - 40 - 2 - m)] ∧ Bs W Ab m cb ((xs.drop 76).take m) ∧ Ext w W) S1.out ?_
  clear S1
  rintro wc ⟨kLc, kEc, kRc, bsc, xc⟩
  replace kLc := Lib.hid kLc
  replace kEc := Lib.hid kEc
  replace kRc := Lib.hid kRc
  replace bsc := Lib.hid bsc
  replace xc := Lib.hid xc
  have EV := Lib.hid (fun _ : Unit => (rfl : evC (v0 : Int) (v1 : Int) cm pk (vp : Int) (vn : Int) Ab m cb = evC (v0 : Int) (v1 : Int) cm pk (vp : Int) (vn : Int) Ab m cb))
  by_cases h7 : 0 < n - 1 - 1 - 32 - 40 - 2 - m
  · go_wp2_with fail
    refine (end_bad kRc.out h7).mono ?_
    rintro e u_ ⟨rfl, e_⟩
    have CC := Lib.hid (CF.out u_ w.heap.size (w.heap.size + 1) _ (.int .i64 0) 2 (kLc.out.ext e_) (kEc.out.ext e_) (by omega) L_e5)
    have XX := Lib.hid (xc.out.trans e_)
    have RE : Hid (reE xs = 2) := RC.out (by omega)
    refine leaves_cons (f := 42) (args := #[.pointer (some ⟨w.heap.size, 0, none⟩), .pointer (some ⟨w.heap.size + 1, 0, none⟩)]) (by simp) (by simp [go_sem]) ?_
    refine CC.out.mono ?_
    rintro e u' w2 ⟨rfl, rfl, k2_, k3_, x2_⟩
    refine ⟨_, results_re rfl rfl k2_ k3_ evz_len, ?_⟩
    exact ⟨Below.trans XX.out (x2_ _ (Nat.le_refl _) (by omega)), .inl (by rw [RE.out]; exact ⟨by decide, rfl⟩)⟩
  have hnm : 76 + m = n := by omega
  have ER : Hid (∀ (W : World), Ext wc W → Calls Try.prog 37 #[.pointer (some ⟨w.heap.size + 1 + 1, 0, none⟩)] W fun e w' => e = .returned (.tuple #[]) ∧ Ext W w') := fun W e => by
    have k := kRc.out.ext e
    rw [show n - 1 - 1 - 32 - 40 - 2 - m = 0 by omega] at k
    exact end_ok k
  have BF : Hid ((xs.drop 76).take m = xs.drop 76) := by unfold Hid; rw [List.take_of_length_le (by rw [List.length_drop, lx.out]; omega)]
  rw [BF.out] at bsc
  have VV_ := Lib.hid (fun (W : World) => VE.out W Ab m cb (by omega) (by omega))
  have okd : Hid (okX xs = okE (v0 : Int) (v1 : Int) (vp : Int) (vn : Int) m) := OK0.out m (by omega)
  clear VE BX BF RB RC OK0
  obtain ⟨rb, hrb⟩ : ∃ b, b = okE (v0 : Int) (v1 : Int) (vp : Int) (vn : Int) m := ⟨_, rfl⟩
  rw [← hrb] at VV_ okd
  replace hrb := Lib.hid hrb
  obtain ⟨ev, hev⟩ : ∃ ev, ev = evC (v0 : Int) (v1 : Int) cm pk (vp : Int) (vn : Int) Ab m cb := ⟨_, rfl⟩
  rw [← hev] at kLc VV_ L_e5
  have S_ev : ev.toArray.size = 69 := by rw [List.size_toArray, L_e5]
  go_wp2_with fail
  refine (ER.out _ (Ext.refl _)).mono ?_
  rintro e wd ⟨rfl, e1⟩
  have kLd := Lib.hid (kLc.out.ext e1)
  have kEd := Lib.hid (kEc.out.ext e1)
  have xd := Lib.hid (xc.out.trans e1)
  have bsd := Lib.hid (bsc.out.ext e1)
  clear kLc kEc xc bsc kRc e1 ER
  have O_ev : Hid (ev.toArray.all (·.oneCell') = true) := by
    rw [hev]
    refine one_cells fun v hv => ?_
    unfold evC hdC at hv
    simp only [List.mem_append, List.mem_cons, List.not_mem_nil, or_false] at hv
    rcases hv with (rfl | rfl) | q | (q | rfl | rfl) | rfl
    all_goals first | rfl | exact one_mem _ v q
  replace hev := Lib.hid (fun _ : Unit => hev)
  have DM1 := Lib.hid (fun (W : World) => demand_ok (w := W))
  have DM0 := Lib.hid (fun (W : World) => demand_bad (w := W))
  go_wp2_with (refine wpList_load_row rfl 35 _ rfl w.heap.size rfl 35 ev.toArray (0, 0) _ kLd.out rfl rfl (by rw [S_ev]; rfl) ?_; simp only [Act.put, List.setIfInBounds_toArray, List.set_cons_zero, List.set_cons_succ])
  refine (VV_.out _).mono ?_
  rintro e we ⟨rfl, e1⟩
  have kLe := Lib.hid (kLd.out.ext e1)
  have kEe := Lib.hid (kEd.out.ext e1)
  have xe := Lib.hid (xd.out.trans e1)
  have bse := Lib.hid (bsd.out.ext e1)
  clear kLd kEd xd bsd e1 VV_
  rcases rb with _ | _
  · go_wp2_with fail
    refine (DM0.out _).mono ?_
    rintro e u_ ⟨rfl, e_⟩
    have CC := Lib.hid (CF.out u_ w.heap.size (w.heap.size + 1) _ (.int .i64 0) 2 (kLe.out.ext e_) (kEe.out.ext e_) (by omega) L_e5)
    have XX := Lib.hid (xe.out.trans e_)
    have RE : Hid (reE xs = 2) := by unfold Hid; exact RD.out (by omega) okd.out
    refine leaves_cons (f := 42) (args := #[.pointer (some ⟨w.heap.size, 0, none⟩), .pointer (some ⟨w.heap.size + 1, 0, none⟩)]) (by simp) (by simp [go_sem]) ?_
    refine CC.out.mono ?_
    rintro e u' w2 ⟨rfl, rfl, k2_, k3_, x2_⟩
    refine ⟨_, results_re rfl rfl k2_ k3_ evz_len, ?_⟩
    exact ⟨Below.trans XX.out (x2_ _ (Nat.le_refl _) (by omega)), .inl (by rw [RE.out]; exact ⟨by decide, rfl⟩)⟩
  go_wp2_with fail
  refine (DM1.out _).mono ?_
  rintro e w5 ⟨rfl, e5⟩
  have k8 := Lib.hid (kLe.out.ext e5)
  have k9 := kEe.out.ext e5
  have x3 := Lib.hid (xe.out.trans e5)
  have b3 := Lib.hid (bse.out.ext e5)
  have q9 := k9.row (r := w.heap.size) (C := ev.toArray) (by omega)
  have c9 := q9.cell (j := 0) rfl
  have z9 := q9.frozen 0
  have F1 : Hid (Cb ((w5.setRow w.heap.size ev.toArray).setCell ⟨w.heap.size + 1, 0, none⟩ (.int .i64 0)) w.heap.size 35 ev) := (grown_setCell8.block w.heap.size (by simpa using heap_lt k8.out) (fun q_ => by have := Option.some.inj q_; omega)).trans (setRow_heap _ _ _ _ _ _ k8.out)
  have F2 : Hid (Cb ((w5.setRow w.heap.size ev.toArray).setCell ⟨w.heap.size + 1, 0, none⟩ (.int .i64 0)) (w.heap.size + 1) 28 [.int .i64 0]) := q9.setCell
  have F3 : Hid (Ext w ((w5.setRow w.heap.size ev.toArray).setCell ⟨w.heap.size + 1, 0, none⟩ (.int .i64 0))) := Below.setCell (below_setRow x3.out (Nat.le_refl _) _) (Nat.le_succ _) _
  have F4 : Hid (Bs ((w5.setRow w.heap.size ev.toArray).setCell ⟨w.heap.size + 1, 0, none⟩ (.int .i64 0)) Ab m cb (xs.drop 76)) := (b3.out.setSame k8.out).cell8 q9 (fun i q => by cases q)
  clear DM0 DM1 kLe kEe xe bse e5 k9 q9 x3 b3
  go_wp2_with (first
    | (refine wpList_load_row rfl 35 _ rfl w.heap.size rfl 35 ev.toArray (0, 0) _ k8.out rfl rfl (by rw [S_ev]; rfl) ?_; simp only [Act.put, List.setIfInBounds_toArray, List.set_cons_zero, List.set_cons_succ])
    | (refine wpList_store_row rfl 35 _ _ rfl w.heap.size ev.toArray rfl rfl 35 ev.toArray k8.out (by rw [S_ev]; rfl) rfl O_ev.out ?_; simp only [Act.put, List.setIfInBounds_toArray, List.set_cons_zero, List.set_cons_succ]))
  clear c9 z9 k8
  generalize (w5.setRow w.heap.size ev.toArray).setCell ⟨w.heap.size + 1, 0, none⟩ (.int .i64 0) = WF at *
  refine leaves_cons (f := 42) (args := #[.pointer (some ⟨w.heap.size, 0, none⟩), .pointer (some ⟨w.heap.size + 1, 0, none⟩)]) (by simp) (by simp [go_sem]) ?_
  refine (CI.out _ _ _).mono ?_
  rintro e u' w6 ⟨rfl, rfl, e6⟩
  refine ⟨_, results_re rfl rfl (F1.out.ext e6) (F2.out.ext e6) L_e5, F3.out.trans e6, .inr ⟨RE_.out (by omega) okd.out, Ab, m, cb, ?_, F4.out.ext e6⟩⟩
  rw [hev.out (), h_v0.out, h_v1.out, h_cm.out, h_pk.out, h_vp.out, h_vn.out]
end Go.Proofs.Ytojgmgghlkpfoaa
