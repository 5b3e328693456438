/-
  skips.oldest.
-/
import Derived.Test.YtonjialkfbbhpaaSkTake
namespace Go.Proofs.Ytonjialkfbbhpaa
open Go.ChangeShapes Go.WideShapes Go.ChangeAt Go.RowKit Go.Deep Go.Maps
set_option maxRecDepth 100000

def Kp.kv (x : Kp) : Value := .agg (knC x.pk x.n).toArray
def Kp.vv (x : Kp) : Value := .agg (knC x.k x.wh).toArray
/-- What is known of the loop: the least of those that have come. -/
def OldI (L : List Kp) (puts : Int) (lf : Value → Prop) (fp : List UInt8) (fn wh : Int) : Prop :=
  fp.length = 32 ∧ (wh = puts ∨ ∃ y ∈ L, y.pk = fp ∧ y.n = fn ∧ y.wh = wh) ∧ ∀ y ∈ L, ¬ lf y.kv → wh ≤ y.wh
theorem OldI.start (L : List Kp) (puts : Int) : OldI L puts (fun _ => True) (List.replicate 32 0) 0 puts := ⟨rfl, .inl rfl, fun y _ h => absurd trivial h⟩
theorem kv_inj {L : List Kp} (ok : ∀ x ∈ L, x.ok) (ap : L.Pairwise fun x y => ¬(x.pk = y.pk ∧ x.n = y.n)) {x y : Kp} (hx : x ∈ L) (hy : y ∈ L) (h : x.kv = y.kv) : x = y := by
  have q := kn_inj (ok x hx).1 (ok y hy).1 h
  clear ok h
  induction L with
  | nil => cases hx
  | cons z r ih =>
    obtain ⟨a1, a2⟩ := List.pairwise_cons.1 ap
    rcases List.mem_cons.1 hx with rfl | hx' <;> rcases List.mem_cons.1 hy with rfl | hy'
    · rfl
    · exact absurd q (a1 _ hy')
    · exact absurd ⟨q.1.symm, q.2.symm⟩ (a1 _ hx')
    · exact ih a2 hx' hy'
theorem OldI.less {L : List Kp} {puts : Int} {lf : Value → Prop} {fp : List UInt8} {fn wh : Int} (h : OldI L puts lf fp fn wh) (ok : ∀ x ∈ L, x.ok) (ap : L.Pairwise fun x y => ¬(x.pk = y.pk ∧ x.n = y.n)) {x : Kp} (hx : x ∈ L) (hlt : x.wh < wh) : OldI L puts (fun key => lf key ∧ key ≠ x.kv) x.pk x.n x.wh :=
  ⟨(ok x hx).1, .inr ⟨x, hx, rfl, rfl, rfl⟩, fun y hy hn => by
    by_cases q : lf y.kv
    · have e : y.kv = x.kv := Classical.byContradiction fun e => hn ⟨q, e⟩
      rw [kv_inj ok ap hy hx e]; omega
    · have := h.2.2 y hy q; omega⟩
theorem OldI.more {L : List Kp} {puts : Int} {lf : Value → Prop} {fp : List UInt8} {fn wh : Int} (h : OldI L puts lf fp fn wh) (ok : ∀ x ∈ L, x.ok) (ap : L.Pairwise fun x y => ¬(x.pk = y.pk ∧ x.n = y.n)) {x : Kp} (hx : x ∈ L) (hlt : ¬ x.wh < wh) : OldI L puts (fun key => lf key ∧ key ≠ x.kv) fp fn wh :=
  ⟨h.1, h.2.1, fun y hy hn => by
    by_cases q : lf y.kv
    · have e : y.kv = x.kv := Classical.byContradiction fun e => hn ⟨q, e⟩
      rw [kv_inj ok ap hy hx e]; omega
    · exact h.2.2 y hy q⟩
theorem OldI.done {x : Kp} {r : List Kp} {puts : Int} {lf : Value → Prop} {fp : List UInt8} {fn wh : Int} (h : OldI (x :: r) puts lf fp fn wh) (inc : (x :: r).Pairwise fun x y => x.wh < y.wh) (lt : ∀ y ∈ x :: r, y.wh < puts) (hd : ∀ y ∈ x :: r, ¬ lf y.kv) : fp = x.pk ∧ fn = x.n := by
  have h1 := h.2.2 x (List.mem_cons_self ..) (hd x (List.mem_cons_self ..))
  have h2 := lt x (List.mem_cons_self ..)
  rcases h.2.1 with e | ⟨y, hy, rfl, rfl, rfl⟩
  · omega
  · rcases List.mem_cons.1 hy with rfl | hy
    · exact ⟨rfl, rfl⟩
    · have := (List.pairwise_cons.1 inc).1 y hy
      omega
theorem grown_row1 (w : World) (g : Nat) (C : Array Value) : w.grownBy (w.setRow g C) (some g) := ⟨rfl, rfl, rfl, by simp, fun i _ h => setRow_other _ _ _ _ (fun q => h (by rw [q]))⟩
set_option maxHeartbeats 4000000 in
theorem sold_calls {w : World} {g mb : Nat} {L : List Kp} {puts : Int} (h : SK w g mb L puts) {x : Kp} {l : List Kp} (hL : L = x :: l) :
    Calls Try.prog 37 #[.pointer (some ⟨g, 0, none⟩)] w fun e w' => e = .returned (.agg (knC x.pk x.n).toArray) ∧ Ext w w' := by
  have hal1 := place_alloc
  have hal2 := entry_alloc
  have L_ZK := zKN_len
  have S_ZK : zKN.toArray.size = 33 := by rw [List.size_toArray, L_ZK]
  have OK := Lib.hid h.ok
  have AP := Lib.hid h.apart
  have DN : Hid (∀ lf fp fn wh, OldI L puts lf fp fn wh → (∀ y ∈ L, ¬ lf y.kv) → fp = x.pk ∧ fn = x.n) := fun lf fp fn wh q hd => by
    have i1 := h.inc
    have i2 := h.lt
    subst hL
    exact q.done i1 i2 hd
  have C1 := h.cb.cell (j := 1) rfl
  have C0 := h.cb.cell (j := 0) rfl
  have glt := h.cb.lt
  have HM : Hid (Mp Try.prog 82 w mb (L.map fun y => (y.kv, y.vv))) := h.mp
  have CE : Hid (∀ s, Ext w s → s.cell? ⟨g, 0, none⟩ = some (.map (some mb)) ∧ s.cell? ⟨g, 1, none⟩ = some (.int .i64 puts)) := fun s e => ⟨(e.cell glt).trans C0, (e.cell glt).trans C1⟩
  have blt := h.mp.lt
  clear h hL C0 C1
  obtain ⟨r2, hr2⟩ : ∃ r, r = w.heap.size := ⟨_, rfl⟩
  have B0 : Hid (Cb ((w.alloc (Obj.cells zKN.toArray 82)).alloc (Obj.cells zKN.toArray 82)) r2 82 zKN ∧ Cb ((w.alloc (Obj.cells zKN.toArray 82)).alloc (Obj.cells zKN.toArray 82)) (r2 + 1) 82 (knC (List.replicate 32 0) 0) ∧ Ext w ((w.alloc (Obj.cells zKN.toArray 82)).alloc (Obj.cells zKN.toArray 82))) := by
    rw [hr2]; exact ⟨heap_alloc1 _ _ _, heap_alloc2 _ _ _, ((Ext.refl w).alloc _).alloc _⟩
  generalize zKN = ZK at *
  go_enter Try.func37, Try.ntmps37
  go_upto_region 2 with fail
  refine wp_gen (fun W => Cb W r2 82 ZK ∧ Cb W (r2 + 1) 82 (knC (List.replicate 32 0) 0) ∧ Ext w W) B0.out ?_
  rw [← hr2]
  have wr2 : w.heap.size ≤ r2 := Nat.le_of_eq hr2.symm
  clear B0
  replace hr2 := Lib.hid hr2
  obtain ⟨r3, hr3⟩ : ∃ r, r = r2 + 1 := ⟨_, rfl⟩
  rw [← hr3]
  have wr3 : r2 < r3 := by omega
  replace hr3 := Lib.hid hr3
  rintro w0 ⟨k2, k3, x0⟩
  obtain ⟨r4, hr4⟩ : ∃ r, r = w0.heap.size := ⟨_, rfl⟩
  have hm0 := HM.out.ext x0
  obtain ⟨c0, c1⟩ := CE.out _ x0
  have l3 : r3 < r4 := by rw [hr4]; exact k3.lt
  have wr4 : w.heap.size ≤ r4 := by rw [hr4]; exact x0.size
  replace k2 := Lib.hid k2
  replace k3 := Lib.hid k3
  replace x0 := Lib.hid x0
  go_wp2_with (at_range; refine wpList_range_mp rfl _ rfl place_law Try.underlying78 rfl hm0 hr4.symm ?_; intro w1 m1 x1)
  go_frame
  replace hr4 := Lib.hid hr4
  have K2 : Hid (∀ s, Ext w0 s → Cb s r2 82 ZK) := fun s e => k2.out.ext e
  go_loopw [4] (fun wv wr => ∃ (lf : Value → Prop) (cnt : Nat) (fp : List UInt8) (fn wh : Int), wv = .int .i64 wh ∧ Mr Try.prog 82 wr mb r4 (L.map fun y => (y.kv, y.vv)) lf cnt ∧ Cb wr r2 82 ZK ∧ Cb wr r3 82 (knC fp fn) ∧ OldI L puts lf fp fn wh ∧ Ext w wr) (fun _ wr => wr.rangeLeft mb r4)
  case atStart => exact ⟨_, _, _, _, _, rfl, m1, k2.out.ext x1, k3.out.ext x1, OldI.start L puts, x0.out.trans x1⟩
  case round =>
    obtain ⟨lf, cnt, fp, fn, wh, rfl, mr, k2, k3, oi, xr⟩ := hrel
    clear m1 K2 c0 c1
    have lfp := oi.1
    have hOI : Hid (OldI L puts lf fp fn wh) := oi
    have mro : Hid (wr.rangeLeft mb r4 = cnt) := mr.left_eq
    replace xr := Lib.hid xr
    replace k2 := Lib.hid k2
    replace k3 := Lib.hid k3
    clear oi
    go_wp2_with (at_next; refine wpList_next_mr Kp.kv Kp.vv rfl _ rfl place_law rfl mr ?_ ?_)
    · intro hd
      obtain ⟨rfl, rfl⟩ := DN.out _ _ _ _ hOI.out hd
      have L_C := knC_len lfp x.n
      have S_C : (knC x.pk x.n).toArray.size = 33 := by rw [List.size_toArray, L_C]
      have O_C := one_cells (one_kn (pk := x.pk) (n := x.n))
      have FIN : Hid (∀ C, C = knC x.pk x.n → Ending.returned (.agg C.toArray) = .returned (.agg (knC x.pk x.n).toArray) ∧ Ext w (wr.setRow r2 C.toArray)) := fun C e => by subst e; exact ⟨rfl, below_setRow xr.out wr2 _⟩
      obtain ⟨C, hC⟩ : ∃ C, C = knC x.pk x.n := ⟨_, rfl⟩
      replace FIN := Lib.hid (FIN.out C hC)
      rw [← hC] at k3 L_C S_C O_C
      replace hC := Lib.hid hC
      clear mr mro hd OK AP DN hOI HM CE
      go_wp2_with (first
        | ((with_reducible refine wpList_load_rowW (o := ⟨some 28, _, _, _, _, _⟩) ?_ 82 _ rfl r3 ?_ 82 C.toArray (0, 0) _ ?_ Try.underlying82 ?_ ?_ ?_); (· rfl); (· rfl); (· exact k3.out); (· rfl); (· rw [S_C]; rfl); simp only [Act.put, List.setIfInBounds_toArray, List.set_cons_zero, List.set_cons_succ])
        | (refine wpList_store_row rfl 82 _ _ rfl r2 C.toArray rfl rfl 82 ZK.toArray k2.out (by rw [S_C]; rfl) (by rw [S_C, S_ZK]) O_C ?_; simp only [Act.put]))
      (try simp only [Exit.inBlock, Exit.then])
      refine bodyPost_ret (results_cell_row rfl _ _ r2 82 C.toArray (0, 0) _ rfl (setRow_heap _ _ _ _ _ _ k2.out) rfl rfl (by rw [S_C]; rfl)) rfl ?_
      exact FIN.out
    · intro y hy hly w3 cnt3 m3 hlt hg hs hen
      have hen' : (Instr.entry (.pointer (some ⟨r4, 0, none⟩))).run Try.prog w3 = .ok (.tuple #[.agg (knC y.pk y.n).toArray, .agg (knC y.k y.wh).toArray]) w3 := hen
      have oky := OK.out y hy
      have L_K := knC_len oky.1 y.n
      have L_V := knC_len oky.2.1 y.wh
      have S_K : (knC y.pk y.n).toArray.size = 33 := by rw [List.size_toArray, L_K]
      have S_V : (knC y.k y.wh).toArray.size = 33 := by rw [List.size_toArray, L_V]
      have O_K := one_cells (one_kn (pk := y.pk) (n := y.n))
      have O_V := one_cells (one_kn (pk := y.k) (n := y.wh))
      have CW := kn_cells oky.2.1 y.wh
      have X3 : Hid (Ext w w3) := Below.trans xr.out ⟨hg.os, hg.tape, hg.output, hg.size, fun i hi => hg.block i (Nat.lt_of_lt_of_le hi xr.out.size) (fun q => by have := Option.some.inj q; omega)⟩
      have k2' : Hid (Cb w3 r2 82 ZK) := (hg.block _ k2.out.lt (fun q => by have := Option.some.inj q; omega)).trans k2.out
      have k3' : Hid (Cb w3 r3 82 (knC fp fn)) := (hg.block _ k3.out.lt (fun q => by have := Option.some.inj q; omega)).trans k3.out
      have r4lt := m3.lt
      have SM : Hid (y.wh < wh → OldI L puts (fun key => lf key ∧ key ≠ y.kv) y.pk y.n y.wh) := fun q => hOI.out.less OK.out AP.out hy q
      have SN : Hid (¬ y.wh < wh → OldI L puts (fun key => lf key ∧ key ≠ y.kv) fp fn wh) := fun q => hOI.out.more OK.out AP.out hy q
      clear mr hen k2 k3 xr DN hOI hly hs
      generalize knC y.k y.wh = YV at *
      obtain ⟨YK, hYK⟩ : ∃ C, C = knC y.pk y.n := ⟨_, rfl⟩
      rw [← hYK] at hen' L_K S_K O_K
      replace hYK := Lib.hid hYK
      generalize y.wh = yw at *
      have K5 : Hid (Cb ((((w3.alloc (.cells ZK.toArray 82)).alloc (.cells ZK.toArray 84)).setRow w3.heap.size YK.toArray).setRow (w3.heap.size + 1) YV.toArray) w3.heap.size 82 YK ∧ Cb ((((w3.alloc (.cells ZK.toArray 82)).alloc (.cells ZK.toArray 84)).setRow w3.heap.size YK.toArray).setRow (w3.heap.size + 1) YV.toArray) (w3.heap.size + 1) 84 YV ∧ Ext w3 ((((w3.alloc (.cells ZK.toArray 82)).alloc (.cells ZK.toArray 84)).setRow w3.heap.size YK.toArray).setRow (w3.heap.size + 1) YV.toArray)) := by
        have a1 : Cb ((w3.alloc (.cells ZK.toArray 82)).alloc (.cells ZK.toArray 84)) w3.heap.size 82 ZK := heap_alloc1 _ _ _
        have a2 : Cb ((w3.alloc (.cells ZK.toArray 82)).alloc (.cells ZK.toArray 84)) (w3.heap.size + 1) 84 ZK := heap_alloc2 _ _ _
        exact ⟨(a1.set (L' := YK)).row (by omega), (a2.row (by omega)).set, below_setRow (below_setRow (((Ext.refl w3).alloc _).alloc _) (Nat.le_refl _) _) (Nat.le_succ _) _⟩
      have a1 : Hid (((w3.alloc (.cells ZK.toArray 82)).alloc (.cells ZK.toArray 84)).heap[w3.heap.size]? = some (.cells ZK.toArray 82 (0, 0))) := heap_alloc1 _ _ _
      have a2 : Hid ((((w3.alloc (.cells ZK.toArray 82)).alloc (.cells ZK.toArray 84)).setRow w3.heap.size YK.toArray).heap[w3.heap.size + 1]? = some (.cells ZK.toArray 84 (0, 0))) := (setRow_other _ _ _ _ (by omega)).trans (heap_alloc2 _ _ _)
      go_upto_region 6 with (first
        | (refine wpList_store_row rfl 82 _ _ rfl w3.heap.size YK.toArray rfl rfl 82 ZK.toArray a1.out (by rw [S_K]; rfl) (by rw [S_K, S_ZK]) O_K ?_; simp only [Act.put])
        | (refine wpList_store_row rfl 84 _ _ rfl (w3.heap.size + 1) YV.toArray rfl rfl 84 ZK.toArray a2.out (by rw [S_V]; rfl) (by rw [S_V, S_ZK]) O_V ?_; simp only [Act.put]))
      refine wp_gen (fun W => Cb W w3.heap.size 82 YK ∧ Cb W (w3.heap.size + 1) 84 YV ∧ Ext w3 W) K5.out ?_
      clear K5 a1 a2 hen'
      rintro w4 ⟨k5, k6, x4⟩
      have M4 : Hid (∀ s, Ext w3 s → Mr Try.prog 82 s mb r4 (L.map fun y => (y.kv, y.vv)) (fun key => lf key ∧ key ≠ y.kv) cnt3 ∧ Cb s r2 82 ZK ∧ Cb s r3 82 (knC fp fn) ∧ Ext w s) := fun s e => ⟨m3.ext e, k2'.out.ext e, k3'.out.ext e, X3.out.trans e⟩
      have r5lt : r4 < w3.heap.size := r4lt
      generalize w3.heap.size = r5 at *
      have Q4 := Lib.hid (M4.out _ x4)
      clear M4 m3 k2' k3' X3 x4 hg w3 r4lt
      have lfp' := knC_len lfp fn
      have S_F : (knC fp fn).toArray.size = 33 := by rw [List.size_toArray, lfp']
      obtain ⟨q1, q2, q3, q4⟩ := Q4.out
      have c6 := k6.cell CW
      rcases Decidable.em (yw < wh) with hlw | hlw
      · have u : decide (yw < wh) = true := decide_eq_true hlw
        have OI := Lib.hid (SM.out hlw)
        clear SM SN Q4
        have T : Hid (∀ s, w4.drew.grownBy s (some r3) → Cb s r5 82 YK ∧ s.cell? ⟨r5 + 1, 32, none⟩ = some (.int .i64 yw)) := fun s e => by
          have hb : ∀ i, i < w4.heap.size → i ≠ r3 → s.heap[i]? = w4.heap[i]? := fun i hi hne => e.block i hi (fun q => hne (Option.some.inj q))
          exact ⟨(hb _ k5.lt (by omega)).trans k5, (cell_of_heap (hb _ k6.lt (by omega)) _).trans c6⟩
        have F : Hid (Mr Try.prog 82 (w4.drew.setRow r3 YK.toArray) mb r4 (L.map fun y => (y.kv, y.vv)) (fun key => lf key ∧ key ≠ y.kv) cnt3 ∧ Cb (w4.drew.setRow r3 YK.toArray) r2 82 ZK ∧ Cb (w4.drew.setRow r3 YK.toArray) r3 82 YK ∧ Ext w (w4.drew.setRow r3 YK.toArray)) :=
          ⟨(q1.ext (Ext.refl _).drew).kept (grown_row1 _ _ _) (fun q => by have := Option.some.inj q; omega) (fun q => by have := Option.some.inj q; omega), Cb.row (w := w4.drew) q2 (by omega), Cb.set (w := w4.drew) q3, below_setRow q4.drew (by omega) _⟩
        have q3' : Hid (w4.drew.heap[r3]? = some (.cells (knC fp fn).toArray 82 (0, 0))) := q3
        generalize knC fp fn = FC at *
        clear q1 q2 q3 q4 k5 k6
        go_upto_region 7 with fail
        refine wp_region_seq (R := fun a b => a.grownBy b (some r3)) (fun w => World.grownBy.refl w _) (fun _ _ _ => gr_trans) [0, 1, 2, 3, 4] [3] [(0, 26, 64), (0, 27, 128), (2, 28, 134217728), (1, 0, 67108880), (15, 5, 268435456)] (by kernel_rfl) (by kernel_rfl) (by kernel_rfl) rfl (by kernel_rfl) (by kernel_rfl) (fun _ _ d _ _ h => by cases d <;> exact h) ?_
        generalize w4.drew = W at *
        clear w4 c6
        refine seq_read (fun w' => w'.heap[r5]? = some (.cells YK.toArray 82 (0, 0))) (fun w' e => (T.out w' e).1) _ (v := .agg YK.toArray) rfl rfl (by rfl) (fun w' hF => exec_load_row rfl rfl hF rfl rfl (by rw [S_K]; rfl)) ?_
        simp only [Act.put, List.setIfInBounds_toArray, List.set_cons_zero, List.set_cons_succ]
        repeat (first | (refine seq_read _ (fun w' e => (T.out w' e).2) _ (v := ?_) rfl rfl (by rfl) ?_ ?_; rotate_left; (· intro w' hF; go_simp; (try with_reducible rfl)); simp only [Act.put, List.setIfInBounds_toArray, List.set_cons_zero, List.set_cons_succ]) | (refine seq_skip _ rfl rfl (by rfl) ?_; simp only [Act.put, List.setIfInBounds_toArray, List.set_cons_zero, List.set_cons_succ]))
        refine seq_do _ rfl rfl (by rfl) (fun K hK => ?_)
        refine wp_store_row _ _ _ rfl r3 YK.toArray rfl rfl 82 FC.toArray q3'.out (by rw [S_K]; rfl) (by rw [S_K, S_F]) O_K ?_
        refine hK.out _ _ (grown_row1 _ _ _) ?_
        clear hK K
        try simp only [Act.put, List.setIfInBounds_toArray, List.set_cons_zero, List.set_cons_succ]
        repeat (first | (refine seq_read (fun _ => True) (fun _ _ => trivial) _ (v := ?_) rfl rfl (by rfl) ?_ ?_; rotate_left; (· intro w' hF; go_simp; (try with_reducible rfl)); simp only [Act.put, List.setIfInBounds_toArray, List.set_cons_zero, List.set_cons_succ]) | (refine seq_skip _ rfl rfl (by rfl) ?_; simp only [Act.put, List.setIfInBounds_toArray, List.set_cons_zero, List.set_cons_succ]))
        refine seq_done ?_
        refine gen_q (fun W => Mr Try.prog 82 W mb r4 (L.map fun y => (y.kv, y.vv)) (fun key => lf key ∧ key ≠ y.kv) cnt3 ∧ Cb W r2 82 ZK ∧ Cb W r3 82 YK ∧ Ext w W) F.out ?_
        clear F T q3' W
        rintro w5 ⟨f1, f2, f3, f4⟩
        rw [hYK.out] at f3
        go_wp2_with fail
        go_round
        case rel => exact ⟨_, cnt3, _, _, _, rfl, f1, f2, f3, OI.out, f4⟩
        case measure => rw [f1.left_eq, mro.out]; exact hlt
      · have u : decide (yw < wh) = false := decide_eq_false hlw
        have OI := Lib.hid (SN.out hlw)
        clear SM SN Q4
        go_wp2_with fail
        go_round
        case rel => exact ⟨_, cnt3, _, _, _, rfl, q1, q2, q3, OI.out, q4⟩
        case measure => rw [q1.left_eq, mro.out]; exact hlt
end Go.Proofs.Ytonjialkfbbhpaa
