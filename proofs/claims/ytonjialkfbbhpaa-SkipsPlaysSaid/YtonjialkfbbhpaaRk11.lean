/-
  The document's store of keys: its state; palfreyref11.at.
-/
import Derived.Test.YtonjialkfbbhpaaSkCopy
import Derived.Test.YtonjialkfbbhpaaCs
namespace Go.Proofs.Ytonjialkfbbhpaa
open Go.ChangeShapes Go.WideShapes Go.ChangeAt Go.RowKit Go.Deep Go.Maps
set_option maxRecDepth 100000

def Kp.rC (x : Kp) : List Value := cellsOf x.pk ++ ([.int .i64 x.n] ++ cellsOf x.k)
theorem Kp.rC_len {x : Kp} (h : x.ok) : x.rC.length = 65 := by simp [Kp.rC, cellsOf_len, h.1, h.2.1]
theorem Kp.rc0 (x : Kp) (q : Nat) (v : Value) (h : (cellsOf x.pk)[q]? = some v) : x.rC[q]? = some v := by
  unfold Kp.rC
  rw [List.getElem?_append_left (List.getElem?_eq_some_iff.1 h).1, h]
theorem Kp.rc32 {x : Kp} (ok : x.ok) : x.rC[32]? = some (.int .i64 x.n) := by
  unfold Kp.rC
  rw [List.getElem?_append_right (by rw [cellsOf_len, ok.1]; omega), cellsOf_len, ok.1]
  rfl
theorem Kp.rc33 {x : Kp} (ok : x.ok) (q : Nat) (v : Value) (h : (cellsOf x.k)[q]? = some v) : x.rC[33 + q]? = some v := by
  unfold Kp.rC
  rw [List.getElem?_append_right (by rw [cellsOf_len, ok.1]; omega), cellsOf_len, ok.1, List.getElem?_append_right (by simp; omega), List.length_singleton, show 33 + q - 32 - 1 = q by omega, h]
theorem one_rC (x : Kp) : ∀ v ∈ x.rC, v.oneCell' = true := fun v hv => by
  simp only [Kp.rC, List.mem_append, List.mem_cons, List.not_mem_nil, or_false] at hv
  rcases hv with h | rfl | h
  · exact one_mem _ v h
  · rfl
  · exact one_mem _ v h
/-- The document's store at block g keeps the keys of L. -/
def RK (w : World) (g : Nat) (L : List Kp) : Prop :=
  ∃ A n c, Cb w g 29 [.slice A n c] ∧ Cs w 65 A n c (L.map Kp.rC) ∧ (0 < n → ∀ q, A = some q → ∃ cs, w.heap[q.block]? = some (.cells cs 89 (0, 0))) ∧ ∀ x ∈ L, x.ok
section
variable {w w' : World} {g : Nat} {L : List Kp}
theorem RK.keep {w w' : World} {g : Nat} {L : List Kp} (h : RK w g L) (hg : w'.heap[g]? = w.heap[g]?) (K : ∀ (i : Nat) (cs : Array Value), w.heap[i]? = some (Obj.cells cs 89 (0, 0)) → w'.heap[i]? = some (Obj.cells cs 89 (0, 0))) : RK w' g L := by
  obtain ⟨A, n, c, h1, h2, h3, h4⟩ := h
  refine ⟨A, n, c, hg.trans h1, ⟨h2.1, h2.2.1, fun h0 => ?_⟩, fun h0 q hq => ?_, h4⟩
  · obtain ⟨b, off, hA, hb, hc⟩ := h2.2.2 h0
    obtain ⟨cs, hcs⟩ := h3 h0 _ hA
    have k := K _ _ hcs
    exact ⟨b, off, hA, heap_lt k, fun q v hv => (cell_of_heap (k.trans hcs.symm) _).trans (hc q v hv)⟩
  · obtain ⟨cs, hcs⟩ := h3 h0 q hq
    exact ⟨cs, K _ _ hcs⟩
theorem RK.lt (h : RK w g L) : g < w.heap.size := by obtain ⟨A, n, c, h1, _⟩ := h; exact h1.lt
theorem RK.ext (h : RK w g L) (e : Ext w w') : RK w' g L := h.keep (e.block _ h.lt) fun _ _ q => (e.block _ (heap_lt q)).trans q
theorem RK.len (h : RK w g L) : ∃ A n c, Cb w g 29 [.slice A n c] ∧ n = L.length := by
  obtain ⟨A, n, c, h1, h2, _⟩ := h
  exact ⟨A, n, c, h1, by have := h2.1.1; rw [List.length_map] at this; exact this.symm⟩
theorem SK.ne_of {gs mb : Nat} {L' : List Kp} {p : Int} (sk : SK w gs mb L' p) {i : Nat} {cs : Array Value} {t : TypeId} (h : w.heap[i]? = some (.cells cs t (0, 0))) (ht : t ≠ 80) : i ≠ gs ∧ i ≠ mb := by
  constructor
  · rintro rfl
    have := sk.cb
    unfold Cb at this
    rw [h] at this
    injection this with this
    injection this with _ this
    exact ht this
  · rintro rfl
    obtain ⟨es, c, q⟩ := sk.mp.obj
    rw [h] at q
    cases q
theorem RK.two {gs mb : Nat} {L' : List Kp} {p : Int} (h : RK w g L) (sk : SK w gs mb L' p) (t : Two gs mb w w') : RK w' g L := by
  have hg := h
  obtain ⟨A, n, c, h1, _⟩ := h
  have q := sk.ne_of h1 (by decide)
  refine hg.keep (t.2.2.2.2 g h1.lt q.1 q.2) fun i cs hi => ?_
  have q := sk.ne_of hi (by decide)
  exact t.block hi q.1 q.2
theorem SK.grown {gs mb : Nat} {L' : List Kp} {p : Int} (sk : SK w gs mb L' p) (h : RK w g L) (t : w.grownBy w' (some g)) : SK w' gs mb L' p := by
  obtain ⟨A, n, c, h1, _⟩ := h
  have q := sk.ne_of h1 (by decide)
  exact sk.stay (t.block _ sk.cb.lt (fun e => q.1 (Option.some.inj e).symm)) (t.block _ sk.mp.lt (fun e => q.2 (Option.some.inj e).symm))
end
set_option maxHeartbeats 8000000 in
theorem rat_calls {w : World} {g : Nat} {L : List Kp} (h : RK w g L) (hL : L.length ≤ 9) {pk : List UInt8} (hp : pk.length = 32) {n : Int} :
    Calls Try.prog 38 #[.pointer (some ⟨g, 0, none⟩), .agg (cellsOf pk).toArray, .int .i64 n] w fun e w' => ∃ r : Int, e = .returned (.int .i64 r) ∧ ((hasK L pk n = false ∧ r = -1) ∨ ∃ k : Nat, r = (k : Int) ∧ k < L.length ∧ (∃ x, L[k]? = some x ∧ x.at pk n = true) ∧ ∀ j x, j < k → L[j]? = some x → x.at pk n = false) ∧ Ext w w' := by
  obtain ⟨A, m, c, hcb, cs, _, hok⟩ := h
  have lm : L.length = m := by have := cs.1.1; rwa [List.length_map] at this
  have glt := hcb.lt
  have q2 := cs.2.1
  have S_p : (cellsOf pk).toArray.size = 32 := by simp [cellsOf_len, hp]
  have C0 : Hid (∀ s, Ext w s → s.cell? ⟨g, 0, none⟩ = some (.slice A m c)) := fun s e => (hcb.ext e).cell rfl
  replace cs := Lib.hid cs
  replace hok := Lib.hid hok
  clear hcb
  have B0 : Hid (Cb (w.alloc (.cells (cellsOf pk).toArray 31)) w.heap.size 31 (cellsOf pk) ∧ Ext w (w.alloc (.cells (cellsOf pk).toArray 31))) := ⟨Cb.new _ _ _, (Ext.refl w).alloc _⟩
  go_enter Try.func38, Try.ntmps38
  go_upto_region 1 with fail
  refine wp_gen (fun W => Cb W w.heap.size 31 (cellsOf pk) ∧ Ext w W) B0.out ?_
  generalize w.heap.size = r4 at *
  clear B0
  rintro w0 ⟨k4, x0⟩
  go_wp2_with fail
  go_loopw [7] (fun v wr => ∃ k : Nat, k ≤ m ∧ v = .int .i64 (k : Int) ∧ (∀ j x, j < k → L[j]? = some x → x.at pk n = false) ∧ Cb wr r4 31 (cellsOf pk) ∧ Ext w wr) (fun v _ => m - (intOf v).toNat)
  case atStart => exact ⟨0, Nat.zero_le _, rfl, fun j x h => absurd h (by omega), k4, x0⟩
  case round =>
    clear k4 x0
    obtain ⟨k, hkm, rfl, hne, k4, xr⟩ := hrel
    have c0 := C0.out _ xr
    by_cases hlt : k < m
    · obtain ⟨b, off, hA, hb, hc⟩ := cs.out.at hlt
      subst hA
      obtain ⟨x, hx⟩ : ∃ x, L[k]? = some x := ⟨_, List.getElem?_eq_getElem (by omega)⟩
      have okx := hok.out x (List.mem_of_getElem? hx)
      have e1 : (L.map Kp.rC).getD k [] = x.rC := by rw [List.getD_eq_getElem?_getD, List.getElem?_map, hx]; rfl
      rw [e1] at hc
      have lx := okx.1
      have C_x : (cellsOf x.pk).length = 32 := by rw [cellsOf_len, lx]
      have MX : Hid (∀ s, Ext wr s → (∀ q v, (cellsOf x.pk)[q]? = some v → s.cell? ⟨b, off + k * 65 + q, none⟩ = some v) ∧ s.cell? ⟨b, off + k * 65 + 32, none⟩ = some (.int .i64 x.n) ∧ s.cell? ⟨g, 0, none⟩ = some (.slice (some ⟨b, off, none⟩) m c) ∧ Cb s r4 31 (cellsOf pk)) := fun s e => ⟨fun q v hv => ((xr.trans e).cell hb).trans (hc _ _ (x.rc0 q v hv)), ((xr.trans e).cell hb).trans (hc _ _ (Kp.rc32 okx)), C0.out _ (xr.trans e), k4.ext e⟩
      have HIT : Hid (x.at pk n = true → (∃ y, L[k]? = some y ∧ y.at pk n = true)) := fun q => ⟨x, hx, q⟩
      have MISS : Hid (x.at pk n = false → ∀ j y, j < k + 1 → L[j]? = some y → y.at pk n = false) := fun q j y hj hy => by
        rcases Nat.lt_or_ge j k with h1 | h1
        · exact hne j y h1 hy
        · obtain rfl : j = k := by omega
          rw [hx] at hy
          obtain rfl := Option.some.inj hy
          exact q
      have ATX : x.at pk n = (decide (x.pk = pk) && decide (x.n = n)) := by
        unfold Kp.at
        by_cases e2 : x.pk = pk <;> by_cases e3 : x.n = n <;> simp [e2, e3]
      have hw : IntKind.i64.wrap ((k : Int) + 1) = (k : Int) + 1 := IntWalk.i64_in _ (by omega)
      replace hne := Lib.hid hne
      have xd := Lib.hid (xr.drew)
      clear hc e1 hx okx k4 hb
      generalize x.pk = xp at *
      generalize x.n = xn at *
      generalize x.at pk n = at_ at *
      clear x
      obtain ⟨b1, hb1⟩ : ∃ b1, b1 = decide (xp = pk) := ⟨_, rfl⟩
      rw [← hb1] at ATX
      rcases b1 with _ | _
      · obtain rfl : at_ = false := by rw [ATX]; rfl
        have hb1' := Lib.hid hb1.symm
        clear hb1 ATX HIT
        go_upto_region 4 with fail
        refine wp_region_seq (R := Ext) Ext.refl (fun _ _ _ => Ext.trans) [0, 1, 2, 3, 4, 5, 6, 7, 8, 9, 10, 11, 12, 13, 14, 15, 16, 17, 18, 19, 20, 21] [] [(0, 18, 2), (1, 19, 262144), (2, 20, 524288), (4, 21, 1048576), (0, 22, 256), (24, 23, 6291456), (32, 24, 8388608), (64, 25, 16777216), (0, 26, 32), (384, 27, 100663296), (512, 28, 134217728), (1024, 29, 268435458), (3072, 30, 805306368), (5120, 31, 1342177280), (9216, 32, 2415919104), (1024, 33, 268435712), (50176, 34, 13153337344), (66560, 35, 17448304640), (132096, 36, 34628173824), (1024, 37, 268435464), (787456, 38, 206426865664), (1049600, 39, 275146342400)] (by kernel_rfl) (by kernel_rfl) (by kernel_rfl) rfl (by kernel_rfl) (by kernel_rfl) (fun _ _ d _ _ h => by cases d <;> exact h) ?_
        repeat (first | (refine seq_read _ (fun w' e => (MX.out w' (Ext.trans (Ext.refl _).drew e)).2.2.1) _ (v := ?_) rfl rfl (by rfl) ?_ ?_; rotate_left; (· intro w' hF; go_simp; (try with_reducible rfl)); simp only [Act.put, List.setIfInBounds_toArray, List.set_cons_zero, List.set_cons_succ]) | (refine seq_skip _ rfl rfl (by rfl) ?_; simp only [Act.put, List.setIfInBounds_toArray, List.set_cons_zero, List.set_cons_succ]))
        refine seq_read (fun w' => ∀ q_ v, (cellsOf xp)[q_]? = some v → w'.cell? ⟨b, (off + k * 65) + q_, none⟩ = some v) (fun w' e => (MX.out w' (Ext.trans (Ext.refl _).drew e)).1) _ (v := .agg (cellsOf xp).toArray) rfl rfl (by rfl) (fun w' hF => exec_load_mid rfl rfl hF rfl rfl (by rw [C_x]; rfl)) ?_
        simp only [Act.put, List.setIfInBounds_toArray, List.set_cons_zero, List.set_cons_succ]
        refine seq_read (fun w' => w'.heap[r4]? = some (.cells (cellsOf pk).toArray 31 (0, 0))) (fun w' e => (MX.out w' (Ext.trans (Ext.refl _).drew e)).2.2.2) _ (v := .agg (cellsOf pk).toArray) rfl rfl (by rfl) (fun w' hF => exec_load_row rfl rfl hF rfl rfl (by rw [S_p]; rfl)) ?_
        simp only [Act.put, List.setIfInBounds_toArray, List.set_cons_zero, List.set_cons_succ]
        refine seq_read (fun _ => True) (fun _ _ => trivial) _ (v := .bool false) rfl rfl (by rfl) (fun w' _ => exec_eql_keyB hb1'.out lx hp rfl rfl rfl) ?_
        simp only [Act.put, List.setIfInBounds_toArray, List.set_cons_zero, List.set_cons_succ]
        repeat (first | (refine seq_read (fun _ => True) (fun _ _ => trivial) _ (v := ?_) rfl rfl (by rfl) ?_ ?_; rotate_left; (· intro w' hF; go_simp; (try with_reducible rfl)); simp only [Act.put, List.setIfInBounds_toArray, List.set_cons_zero, List.set_cons_succ]) | (refine seq_skip _ rfl rfl (by rfl) ?_; simp only [Act.put, List.setIfInBounds_toArray, List.set_cons_zero, List.set_cons_succ]))
        refine seq_done ?_
        have k4 := (MX.out _ (Ext.refl _).drew).2.2.2
        clear MX c0
        go_wp2_with fail
        go_round
        case rel => exact ⟨k + 1, by omega, by go_num, MISS.out rfl, k4, xd.out⟩
        case measure => simp [intOf]; omega
      · have hb1' := Lib.hid hb1.symm
        rcases Decidable.em (xn = n) with hq | hq
        · have hnn : (xn == n) = true := by simp [hq]
          obtain rfl : at_ = true := by rw [ATX, decide_eq_true hq]; rfl
          replace hq := Lib.hid hq
          clear hb1 ATX MISS
          go_upto_region 4 with fail
          refine wp_region_seq (R := Ext) Ext.refl (fun _ _ _ => Ext.trans) [0, 1, 2, 3, 4, 5, 6, 7, 8, 9, 10, 11, 12, 13, 14, 15, 16, 17, 18, 19, 20, 21] [] [(0, 18, 2), (1, 19, 262144), (2, 20, 524288), (4, 21, 1048576), (0, 22, 256), (24, 23, 6291456), (32, 24, 8388608), (64, 25, 16777216), (0, 26, 32), (384, 27, 100663296), (512, 28, 134217728), (1024, 29, 268435458), (3072, 30, 805306368), (5120, 31, 1342177280), (9216, 32, 2415919104), (1024, 33, 268435712), (50176, 34, 13153337344), (66560, 35, 17448304640), (132096, 36, 34628173824), (1024, 37, 268435464), (787456, 38, 206426865664), (1049600, 39, 275146342400)] (by kernel_rfl) (by kernel_rfl) (by kernel_rfl) rfl (by kernel_rfl) (by kernel_rfl) (fun _ _ d _ _ h => by cases d <;> exact h) ?_
          repeat (first | (refine seq_read _ (fun w' e => (MX.out w' (Ext.trans (Ext.refl _).drew e)).2.2.1) _ (v := ?_) rfl rfl (by rfl) ?_ ?_; rotate_left; (· intro w' hF; go_simp; (try with_reducible rfl)); simp only [Act.put, List.setIfInBounds_toArray, List.set_cons_zero, List.set_cons_succ]) | (refine seq_skip _ rfl rfl (by rfl) ?_; simp only [Act.put, List.setIfInBounds_toArray, List.set_cons_zero, List.set_cons_succ]))
          refine seq_read (fun w' => ∀ q_ v, (cellsOf xp)[q_]? = some v → w'.cell? ⟨b, (off + k * 65) + q_, none⟩ = some v) (fun w' e => (MX.out w' (Ext.trans (Ext.refl _).drew e)).1) _ (v := .agg (cellsOf xp).toArray) rfl rfl (by rfl) (fun w' hF => exec_load_mid rfl rfl hF rfl rfl (by rw [C_x]; rfl)) ?_
          simp only [Act.put, List.setIfInBounds_toArray, List.set_cons_zero, List.set_cons_succ]
          refine seq_read (fun w' => w'.heap[r4]? = some (.cells (cellsOf pk).toArray 31 (0, 0))) (fun w' e => (MX.out w' (Ext.trans (Ext.refl _).drew e)).2.2.2) _ (v := .agg (cellsOf pk).toArray) rfl rfl (by rfl) (fun w' hF => exec_load_row rfl rfl hF rfl rfl (by rw [S_p]; rfl)) ?_
          simp only [Act.put, List.setIfInBounds_toArray, List.set_cons_zero, List.set_cons_succ]
          refine seq_read (fun _ => True) (fun _ _ => trivial) _ (v := .bool true) rfl rfl (by rfl) (fun w' _ => exec_eql_keyB hb1'.out lx hp rfl rfl rfl) ?_
          simp only [Act.put, List.setIfInBounds_toArray, List.set_cons_zero, List.set_cons_succ]
          repeat (first | (refine seq_read _ (fun w' e => And.intro (MX.out w' (Ext.trans (Ext.refl _).drew e)).2.2.1 (MX.out w' (Ext.trans (Ext.refl _).drew e)).2.1) _ (v := ?_) rfl rfl (by rfl) ?_ ?_; rotate_left; (· intro w' hF; go_simp; (try with_reducible rfl)); simp only [Act.put, List.setIfInBounds_toArray, List.set_cons_zero, List.set_cons_succ]) | (refine seq_skip _ rfl rfl (by rfl) ?_; simp only [Act.put, List.setIfInBounds_toArray, List.set_cons_zero, List.set_cons_succ]))
          refine seq_done ?_
          clear MX c0
          go_wp2_with fail
          go_ret
          exact ⟨_, rfl, .inr ⟨k, rfl, by omega, HIT.out trivial, hne.out⟩, xd.out⟩
        · have hnn : (xn == n) = false := by simp [hq]
          obtain rfl : at_ = false := by rw [ATX, decide_eq_false hq]; rfl
          replace hq := Lib.hid hq
          clear hb1 ATX HIT
          go_upto_region 4 with fail
          refine wp_region_seq (R := Ext) Ext.refl (fun _ _ _ => Ext.trans) [0, 1, 2, 3, 4, 5, 6, 7, 8, 9, 10, 11, 12, 13, 14, 15, 16, 17, 18, 19, 20, 21] [] [(0, 18, 2), (1, 19, 262144), (2, 20, 524288), (4, 21, 1048576), (0, 22, 256), (24, 23, 6291456), (32, 24, 8388608), (64, 25, 16777216), (0, 26, 32), (384, 27, 100663296), (512, 28, 134217728), (1024, 29, 268435458), (3072, 30, 805306368), (5120, 31, 1342177280), (9216, 32, 2415919104), (1024, 33, 268435712), (50176, 34, 13153337344), (66560, 35, 17448304640), (132096, 36, 34628173824), (1024, 37, 268435464), (787456, 38, 206426865664), (1049600, 39, 275146342400)] (by kernel_rfl) (by kernel_rfl) (by kernel_rfl) rfl (by kernel_rfl) (by kernel_rfl) (fun _ _ d _ _ h => by cases d <;> exact h) ?_
          repeat (first | (refine seq_read _ (fun w' e => (MX.out w' (Ext.trans (Ext.refl _).drew e)).2.2.1) _ (v := ?_) rfl rfl (by rfl) ?_ ?_; rotate_left; (· intro w' hF; go_simp; (try with_reducible rfl)); simp only [Act.put, List.setIfInBounds_toArray, List.set_cons_zero, List.set_cons_succ]) | (refine seq_skip _ rfl rfl (by rfl) ?_; simp only [Act.put, List.setIfInBounds_toArray, List.set_cons_zero, List.set_cons_succ]))
          refine seq_read (fun w' => ∀ q_ v, (cellsOf xp)[q_]? = some v → w'.cell? ⟨b, (off + k * 65) + q_, none⟩ = some v) (fun w' e => (MX.out w' (Ext.trans (Ext.refl _).drew e)).1) _ (v := .agg (cellsOf xp).toArray) rfl rfl (by rfl) (fun w' hF => exec_load_mid rfl rfl hF rfl rfl (by rw [C_x]; rfl)) ?_
          simp only [Act.put, List.setIfInBounds_toArray, List.set_cons_zero, List.set_cons_succ]
          refine seq_read (fun w' => w'.heap[r4]? = some (.cells (cellsOf pk).toArray 31 (0, 0))) (fun w' e => (MX.out w' (Ext.trans (Ext.refl _).drew e)).2.2.2) _ (v := .agg (cellsOf pk).toArray) rfl rfl (by rfl) (fun w' hF => exec_load_row rfl rfl hF rfl rfl (by rw [S_p]; rfl)) ?_
          simp only [Act.put, List.setIfInBounds_toArray, List.set_cons_zero, List.set_cons_succ]
          refine seq_read (fun _ => True) (fun _ _ => trivial) _ (v := .bool true) rfl rfl (by rfl) (fun w' _ => exec_eql_keyB hb1'.out lx hp rfl rfl rfl) ?_
          simp only [Act.put, List.setIfInBounds_toArray, List.set_cons_zero, List.set_cons_succ]
          repeat (first | (refine seq_read _ (fun w' e => And.intro (MX.out w' (Ext.trans (Ext.refl _).drew e)).2.2.1 (MX.out w' (Ext.trans (Ext.refl _).drew e)).2.1) _ (v := ?_) rfl rfl (by rfl) ?_ ?_; rotate_left; (· intro w' hF; go_simp; (try with_reducible rfl)); simp only [Act.put, List.setIfInBounds_toArray, List.set_cons_zero, List.set_cons_succ]) | (refine seq_skip _ rfl rfl (by rfl) ?_; simp only [Act.put, List.setIfInBounds_toArray, List.set_cons_zero, List.set_cons_succ]))
          refine seq_done ?_
          have k4 := (MX.out _ (Ext.refl _).drew).2.2.2
          clear MX c0
          go_wp2_with fail
          go_round
          case rel => exact ⟨k + 1, by omega, by go_num, MISS.out rfl, k4, xd.out⟩
          case measure => simp [intOf]; omega
    · obtain rfl : k = m := by omega
      have HN : hasK L pk n = false := by
        rw [hasK, List.any_eq_false]
        intro x hx
        obtain ⟨j, hj⟩ := List.mem_iff_getElem?.1 hx
        rw [hne j x (by have := (List.getElem?_eq_some_iff.1 hj).1; omega) hj]
        decide
      clear hne
      go_wp2_with fail
      go_ret
      exact ⟨_, rfl, .inl ⟨HN, rfl⟩, xr⟩
end Go.Proofs.Ytonjialkfbbhpaa
