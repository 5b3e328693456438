import Derived.Test.YtbnjmmefnjoofaaDoorSameL
import Derived.Test.YtbnjmmefnjoofaaDoorMac
import Derived.Test.YtbnjmmefnjoofaaDoorRy5
section
/-
  octets.Same tells whether two rows of bytes are the same.
-/
namespace Go.Proofs.YtbnjmmefnjoofaaDoor
open Go.ChangeShapes Go.WideShapes Go.ChangeAt Go.RowKit Go.Deep

set_option maxHeartbeats 400000 in
theorem same_calls {A A' : Option Addr} {n c n' c' : Nat} {xs ys : List UInt8} {w : World} (h : Bs w A n c xs) (h' : Bs w A' n' c' ys) :
    Calls Tryd.prog 77 #[.slice A n c, .slice A' n' c'] w fun e w' => e = .returned (.bool (decide (xs = ys))) ∧ ∃ k, w' = w.drewN k := by
  have h1 := h.le
  have h2 := h.cap
  have h3 := h'.le
  have h4 := h'.cap
  by_cases hn : n = n'
  · subst hn
    have hl : xs.length = ys.length := h.len.trans h'.len.symm
    have hs : Hid (((differ xs ys n : Int) == 0) = decide (xs = ys)) := by
      unfold Hid
      rw [Bool.eq_iff_iff, decide_eq_true_iff, beq_iff_eq, Int.natCast_eq_zero, differ_zero, same_iff hl, h.len]
    have hl' := Lib.hid hl
    clear hl
    go_enter Tryd.func77, Tryd.ntmps77
    go_wp2
    go_loopw [5, 14] (fun d i wr => ∃ k m : Nat, k ≤ n ∧ i = .int .i64 k ∧ d = .int .u8 (differ xs ys k) ∧ wr = w.drewN m) (fun _ i _ => n - (intOf i).toNat)
    case atStart => exact ⟨0, 0, Nat.zero_le _, rfl, rfl, rfl⟩
    case round =>
      obtain ⟨k, m, hk, rfl, rfl, rfl⟩ := hrel
      by_cases hlt : k < n
      · obtain ⟨b, off, rfl, hb, hc⟩ := h.pos (by omega)
        obtain ⟨b', off', rfl, hb', hc'⟩ := h'.pos (by omega)
        have g1 := hc k hlt
        have g2 := hc' k hlt
        have hu := Lib.hid (u8_differ xs ys k)
        clear hc hc'
        go_wp2
        go_quiet (fail)
        go_wp2
        go_roundw
        case rel => exact ⟨k + 1, _, by omega, by go_num, by rw [← hu.out], rfl⟩
        case measure => simp [intOf]; omega
      · obtain rfl : k = n := by omega
        go_wp2
        go_ret
        exact ⟨ret_bool hs.out, m, rfl⟩
  · have hb : ((n : Int) != (n' : Int)) = true := by rw [bne_iff_ne]; omega
    go_enter Tryd.func77, Tryd.ntmps77
    go_wp2
    go_ret
    refine ⟨?_, 0, rfl⟩
    have : xs ≠ ys := fun e => hn (by rw [← h.len, ← h'.len, e])
    simp [this]

theorem same_ext {A A' : Option Addr} {n c n' c' : Nat} {xs ys : List UInt8} {w : World} {r : Bool} (h : Bs w A n c xs) (h' : Bs w A' n' c' ys) (hr : decide (xs = ys) = r) :
    Calls Tryd.prog 77 #[.slice A n c, .slice A' n' c'] w fun e w' => e = .returned (.bool r) ∧ Ext w w' :=
  (same_calls h h').mono fun _ _ ⟨he, k, hk⟩ => ⟨by rw [he, hr], by rw [hk]; exact (Ext.refl w).drewN k⟩
end Go.Proofs.YtbnjmmefnjoofaaDoor
end

section
/-
  blake.Check.
-/
namespace Go.Proofs.YtbnjmmefnjoofaaDoor
open Go.ChangeShapes Go.WideShapes Go.ChangeAt Go.RowKit Go.Deep

/-- What Check tells of a tag. -/
def checkE (ms ts : List UInt8) : Int := if ms = ts then 0 else 4
theorem checkE_pos {ms ts : List UInt8} (h : ms = ts) : checkE ms ts = 0 := if_pos h
theorem checkE_neg {ms ts : List UInt8} (h : ¬ ms = ts) : checkE ms ts = 4 := if_neg h
set_option maxRecDepth 100000 in
set_option maxHeartbeats 1000000 in
theorem check_long {A A' : Option Addr} {n c m d : Nat} {ks bs ts : List UInt8} {w : World} (h : Bs w A n c ks) (h' : Bs w A' m d bs) (ht : ts.length = 32) (hk : 32 < n) :
    Calls Tryd.prog 51 #[.slice A n c, .slice A' m d, .agg (cellsOf ts).toArray] w fun e w' => e = .returned (.int .i64 1) ∧ Ext w w' := by
  have hal : ∀ w, (zeroValue 23).run Tryd.prog w = .ok (.agg zeros32) w := fun _ => by kernel_rfl
  have hz0 := zeros32_size
  have hz1 := zeros32_one
  have CALL : Hid (∀ W, Ext w W → Calls Tryd.prog 43 #[.slice A n c, .slice A' m d] W fun e w' => e = .returned (.tuple #[.agg zeros32, .int .i64 1]) ∧ Ext W w') := fun W e => by
    have := mac_long (h.ext e) (h'.ext e) hk
    rwa [zeros32_cells] at this
  generalize zeros32 = Z at *
  generalize (cellsOf ts).toArray = T at *
  go_enter Tryd.func51, Tryd.ntmps51
  go_wp2_with fail
  refine (CALL.out _ ((Ext.refl w).alloc _)).mono ?_
  rintro e w1 ⟨rfl, e1⟩
  go_wp2_with (refine wpList_store_row rfl 23 _ _ rfl w1.heap.size Z rfl rfl 23 _ (by with_reducible exact heap_alloc_new _ _) (by rw [hz0]; rfl) rfl hz1 ?_)
  go_ret
  exact ⟨rfl, below_setRow (((((Ext.refl w).alloc _).trans e1)).alloc _) (Nat.le_trans (by simp) e1.size) _⟩

set_option maxRecDepth 100000 in
set_option maxHeartbeats 1000000 in
theorem check_calls {A A' : Option Addr} {n c m d : Nat} {ks bs ts : List UInt8} {w : World} (h : Bs w A n c ks) (h' : Bs w A' m d bs) (ht : ts.length = 32) (hk : n ≤ 32) {tg : TypeId × Nat × Nat} (hG : Gl w tg) :
    Calls Tryd.prog 51 #[.slice A n c, .slice A' m d, .agg (cellsOf ts).toArray] w fun e w' => e = .returned (.int .i64 (checkE (macL ks bs) ts)) ∧ Ext w w' := by
  have hal : ∀ w, (zeroValue 23).run Tryd.prog w = .ok (.agg zeros32) w := fun _ => by kernel_rfl
  have hz0 := zeros32_size
  have CALL : Hid (∀ W, Ext w W → Calls Tryd.prog 43 #[.slice A n c, .slice A' m d] W fun e w' => e = .returned (.tuple #[.agg (cellsOf (macL ks bs)).toArray, .int .i64 0]) ∧ Ext W w') := fun W e => mac_calls (h.ext e) (h'.ext e) hk (hG.kept e hG.lt)
  clear hG
  have ML := macL_len ks bs
  generalize zeros32 = Z at *
  generalize macL ks bs = ms at *
  have HM : (cellsOf ms).toArray.size = 32 := by simp [cellsOf_len, ML]
  have HM1 := cellsOf_one ms
  have hT : Hid (∀ w : World, (w.alloc (Obj.cells (cellsOf ts).toArray 23)).heap[w.heap.size]? = some (Obj.cells (cellsOf ts).toArray 23)) := fun w => heap_alloc_new _ _
  generalize hTT : (cellsOf ts).toArray = T at *
  replace hTT := Lib.hid hTT
  go_enter Tryd.func51, Tryd.ntmps51
  go_wp2_with fail
  refine (CALL.out _ ((Ext.refl w).alloc _)).mono ?_
  rintro e w1 ⟨rfl, e1⟩
  have r0 := Lib.hid ((e1.block w.heap.size (by rw [size_alloc]; omega)).trans (hT.out w))
  have e0 : Hid (Ext w w1) := ((Ext.refl w).alloc _).trans e1
  clear CALL hT e1
  go_wp2_with (refine wpList_store_row rfl 23 _ _ rfl w1.heap.size (cellsOf ms).toArray rfl rfl 23 _ (by with_reducible exact heap_alloc_new _ _) (by rw [HM]; rfl) (by rw [HM]; exact hz0) HM1 ?_)
  refine wp_gen (fun W => Ext w W ∧ W.heap[w.heap.size]? = some (Obj.cells T 23 (0, 0)) ∧ W.heap[w1.heap.size]? = some (Obj.cells (cellsOf ms).toArray 23 (0, 0))) ⟨below_setRow (e0.out.alloc _) e0.out.size _, (setRow_other _ _ _ _ (Nat.ne_of_lt (heap_lt r0.out))).trans (((Ext.refl w1).alloc _ |>.block _ (heap_lt r0.out)).trans r0.out), setRow_heap _ _ _ _ _ _ (heap_alloc_new _ _)⟩ ?_
  rintro W ⟨e2, t2, m2⟩
  rw [← hTT.out] at t2
  replace e2 := Lib.hid e2
  replace t2 := Lib.hid (Bs.key t2 ht)
  replace m2 := Lib.hid (Bs.key m2 ML)
  clear e0 r0
  by_cases hq : ms = ts
  · have SAME : Hid (∀ W', Ext W W' → Calls Tryd.prog 77 #[.slice (some ⟨w1.heap.size, 0, none⟩) 32 32, .slice (some ⟨w.heap.size, 0, none⟩) 32 32] W' fun e w' => e = .returned (.bool true) ∧ Ext W' w') := fun W' e => same_ext (m2.out.ext e) (t2.out.ext e) (by simpa using hq)
    have HQ := Lib.hid hq
    clear hq
    refine qgE [0, 1, 2, 3] [2] ?_
    repeat ((first | refine qR0 ?_ | refine qS ?_); go_frame)
    refine qD fun K hK => ?_
    go_simp
    refine (SAME.out _ (Ext.refl _).drew).mono ?_
    rintro e w2 ⟨rfl, e3⟩
    refine hK.out _ _ e3 ?_
    clear hK K
    try go_frame
    repeat ((first | refine qR0 ?_ | refine qS ?_); go_frame)
    refine seq_done ?_
    go_wp2_with fail
    go_ret
    exact ⟨by rw [checkE_pos HQ.out]; rfl, e2.out.drew.trans e3⟩
  · have SAME : Hid (∀ W', Ext W W' → Calls Tryd.prog 77 #[.slice (some ⟨w1.heap.size, 0, none⟩) 32 32, .slice (some ⟨w.heap.size, 0, none⟩) 32 32] W' fun e w' => e = .returned (.bool false) ∧ Ext W' w') := fun W' e => same_ext (m2.out.ext e) (t2.out.ext e) (by simpa using hq)
    have HQ := Lib.hid hq
    clear hq
    refine qgE [0, 1, 2, 3] [2] ?_
    repeat ((first | refine qR0 ?_ | refine qS ?_); go_frame)
    refine qD fun K hK => ?_
    go_simp
    refine (SAME.out _ (Ext.refl _).drew).mono ?_
    rintro e w2 ⟨rfl, e3⟩
    refine hK.out _ _ e3 ?_
    clear hK K
    try go_frame
    repeat ((first | refine qR0 ?_ | refine qS ?_); go_frame)
    refine seq_done ?_
    go_wp2_with fail
    go_ret
    exact ⟨by rw [checkE_neg HQ.out]; rfl, e2.out.drew.trans e3⟩
end Go.Proofs.YtbnjmmefnjoofaaDoor
end

section
/-
  (*relay.Relay).admitted.
-/
namespace Go.Proofs.YtbnjmmefnjoofaaDoor
open Go.ChangeShapes Go.WideShapes Go.ChangeAt Go.RowKit Go.Deep Go.Maps
set_option maxRecDepth 100000

/-- What speaks against an envelope, but for the rate. -/
def adE (f : Nat → Option Ac) (ok : Bool) (fr tw : Int) (X tg : List UInt8) (now : Int) : Int :=
  if ok = false then 1 else if fr = tw ∨ now < 0 ∨ 1000000 < now then 1 else
  match fd f fr, fd f tw with
  | some i, some j => match f i, f j with
    | some a, some b => if macL a.lk X = tg then (if a.out then 11 else if 8 ≤ b.L.length then 8 else 0) else 4
    | _, _ => 7
  | _, _ => 7
theorem adE_arg {f : Nat → Option Ac} {ok : Bool} {fr tw : Int} {X tg : List UInt8} {now : Int} (h : ok = false ∨ fr = tw ∨ now < 0 ∨ 1000000 < now) : adE f ok fr tw X tg now = 1 := by
  unfold adE
  by_cases h1 : ok = false
  · rw [if_pos h1]
  · rw [if_neg h1, if_pos (h.resolve_left h1)]
theorem adE_none {f : Nat → Option Ac} {ok : Bool} {fr tw : Int} {X tg : List UInt8} {now : Int} (h1 : ok = true) (h2 : ¬(fr = tw ∨ now < 0 ∨ 1000000 < now)) (h : fd f fr = none ∨ fd f tw = none) : adE f ok fr tw X tg now = 7 := by
  unfold adE
  rw [if_neg (by simp [h1]), if_neg h2]
  rcases h with h | h
  · rw [h]
  · rw [h]
    cases fd f fr <;> rfl
theorem adE_in {f : Nat → Option Ac} {ok : Bool} {i j : Nat} {a b : Ac} {X tg : List UInt8} {now : Int} (h1 : ok = true) (h2 : ¬((i : Int) = (j : Int) ∨ now < 0 ∨ 1000000 < now)) (hi : f i = some a) (i8 : i < 8) (hj : f j = some b) (j8 : j < 8) :
    adE f ok (i : Int) (j : Int) X tg now = if macL a.lk X = tg then (if a.out then 11 else if 8 ≤ b.L.length then 8 else 0) else 4 := by
  unfold adE
  rw [if_neg (by simp [h1]), if_neg h2, fd_at hi i8, fd_at hj j8]
  simp only [hi, hj]
def adF (f : Nat → Option Ac) (er : Int) (n : Int) : Option Nat := if er = 0 then fd f n else none
/-- What admitted tells. -/
def AdmP (w : World) (g : Nat) (f : Nat → Option Ac) (ok : Bool) (fr tw : Int) (X tg : List UInt8) (now : Int) (e : Ending) (w' : World) : Prop :=
  e = .returned (.tuple #[adV g (adF f (adE f ok fr tw X tg now) fr), adV g (adF f (adE f ok fr tw X tg now) tw), .int .i64 (adE f ok fr tw X tg now)]) ∧ Ext w w'
theorem AdmP.no {w w' : World} {g : Nat} {f : Nat → Option Ac} {ok : Bool} {fr tw : Int} {X tg : List UInt8} {now z : Int} (h : adE f ok fr tw X tg now = z) (hz : z ≠ 0) (x : Ext w w') {e : Ending} (he : e = .returned (.tuple #[.pointer none, .pointer none, .int .i64 z])) : AdmP w g f ok fr tw X tg now e w' := by
  unfold AdmP adF
  rw [h, if_neg hz, if_neg hz]
  exact ⟨he, x⟩
theorem AdmP.yes {w w' : World} {g : Nat} {f : Nat → Option Ac} {ok : Bool} {i j : Nat} {X tg : List UInt8} {now : Int} (h : adE f ok (i : Int) (j : Int) X tg now = 0) {a b : Ac} (hi : f i = some a) (i8 : i < 8) (hj : f j = some b) (j8 : j < 8) (x : Ext w w') {e : Ending} (he : e = .returned (.tuple #[.pointer (some ⟨g, 1 + i * 134, none⟩), .pointer (some ⟨g, 1 + j * 134, none⟩), .int .i64 0])) : AdmP w g f ok (i : Int) (j : Int) X tg now e w' := by
  unfold AdmP adF
  rw [h, if_pos rfl, if_pos rfl, fd_at hi i8, fd_at hj j8]
  exact ⟨he, x⟩
theorem Bs.of_cells {w : World} {g off : Nat} {xs : List UInt8} (hl : xs.length = 32) (hg : g < w.heap.size) (h : ∀ i v, (cellsOf xs)[i]? = some v → w.cell? ⟨g, off + i, none⟩ = some v) : Bs w (some ⟨g, off, none⟩) 32 32 xs :=
  ⟨hl, Nat.le_refl _, by unfold maxLen; omega, fun _ => ⟨g, off, rfl, hg, fun j hj => h j _ (cellsOf_get (by omega))⟩⟩
theorem adV_some (g j : Nat) : adV g (some j) = .pointer (some ⟨g, 1 + j * 134, none⟩) := rfl
theorem adV_none (g : Nat) : adV g none = .pointer none := rfl
theorem results3 {P : Program} {fn : Func} {p q r : Tmp} (h : fn.results = #[.tmp p, .tmp q, .tmp r]) (tmps : Array Value) (w : World) (x y z : Value) (hp : tmps.getD p undef = x) (hq : tmps.getD q undef = y) (hr : tmps.getD r undef = z) : (results fn tmps).run P w = .ok (.tuple #[x, y, z]) w := by
  have hp' : tmps[p]?.getD undef = x := by simpa using hp
  have hq' : tmps[q]?.getD undef = y := by simpa using hq
  have hr' : tmps[r]?.getD undef = z := by simpa using hr
  simp [results, h, go_sem, hp', hq', hr']
section
variable {B g ticks N : Nat} {w : World} {root : List UInt8} {f : Nat → Option Ac}
set_option maxHeartbeats 16000000 in
theorem admitted_calls (h : RY B w g root ticks f N) {fr tw p n : Int} {cm pk body tag : List UInt8} {A : Option Addr} {m c : Nat} {now : Int} (hc : cm.length = 32) (hk : pk.length = 32) (ht : tag.length = 32) (hb : Bs w A m c body)
    (f1 : -9223372036854775808 ≤ fr) (f2 : fr ≤ 9223372036854775807) (t1 : -9223372036854775808 ≤ tw) (t2 : tw ≤ 9223372036854775807) {tg : TypeId × Nat × Nat} (hG : Gl w tg) :
    Calls Tryd.prog 44 #[.pointer (some ⟨g, 0, none⟩), .agg (evC fr tw cm pk p n A m c).toArray, .agg (cellsOf tag).toArray, .int .i64 now] w (AdmP w g f (okE fr tw p n m) fr tw (enX fr tw cm pk p n body) tag now) := by
  have HE : Hid (∀ W, Ext w W → Calls Tryd.prog 42 #[.agg (evC fr tw cm pk p n A m c).toArray] W (RetBsE (enX fr tw cm pk p n body) (enE fr tw p n m) W)) := fun W e => henv_calls hc hk (hb.ext e)
  have GE : Hid (∀ W, Ext w W → Gl W tg) := fun W e => hG.kept e hG.lt
  have RX : Hid (∀ W, Ext w W → RY B W g root ticks f N) := fun W e => h.ext e
  have fok := h.fok
  clear h hG hb
  have ER : Hid (∀ b, okE fr tw p n m = b → enE fr tw p n m = if b then 0 else 1) := fun b q => by unfold enE; rw [q]
  obtain ⟨ok, hok⟩ : ∃ ok, ok = okE fr tw p n m := ⟨_, rfl⟩
  have ER' := ER.out ok hok.symm
  rw [ER'] at HE
  rw [← hok]
  clear ER ER' hok
  have NO : Hid (∀ z, adE f ok fr tw (enX fr tw cm pk p n body) tag now = z → z ≠ 0 → ∀ W, Ext w W → AdmP w g f ok fr tw (enX fr tw cm pk p n body) tag now (.returned (.tuple #[.pointer none, .pointer none, .int .i64 z])) W) := fun z h hz W x => AdmP.no h hz x rfl
  have L_ev := evC_len hc hk fr tw p n A m c
  have e0 : Hid ((evC fr tw cm pk p n A m c)[0]? = some (.int .i64 fr)) := rfl
  have e1 : Hid ((evC fr tw cm pk p n A m c)[1]? = some (.int .i64 tw)) := rfl
  generalize enX fr tw cm pk p n body = X at *
  generalize evC fr tw cm pk p n A m c = ev at *
  have S_ev : ev.toArray.size = 69 := by rw [List.size_toArray, L_ev]
  have S_t : (cellsOf tag).toArray.size = 32 := by simp [cellsOf_len, ht]
  obtain ⟨r, hr⟩ : ∃ x, x = w.heap.size := ⟨_, rfl⟩
  have B0 : Hid (Cb ((w.alloc (.cells ev.toArray 37)).alloc (.cells (cellsOf tag).toArray 23)) r 37 ev ∧ Ky ((w.alloc (.cells ev.toArray 37)).alloc (.cells (cellsOf tag).toArray 23)) (r + 1) tag ∧ Ext w ((w.alloc (.cells ev.toArray 37)).alloc (.cells (cellsOf tag).toArray 23))) := by
    rw [hr]; exact ⟨heap_alloc1 _ _ _, ⟨heap_alloc2 _ _ _, ht⟩, ((Ext.refl w).alloc _).alloc _⟩
  go_enter Tryd.func44, Tryd.ntmps44
  go_upto_region 1 with fail
  refine wp_gen (fun W => Cb W r 37 ev ∧ Ky W (r + 1) tag ∧ Ext w W) B0.out ?_
  rw [← hr]
  replace hr := Lib.hid hr
  clear B0
  rintro w0 ⟨k0, k1, x0⟩
  have HE0 := Lib.hid (HE.out w0 x0)
  replace x0 := Lib.hid x0
  replace k1 := Lib.hid k1
  clear HE
  go_wp2_with (first | ((with_reducible refine wpList_load_rowW (o := ⟨some 14, _, _, _, _, _⟩) ?_ 37 _ rfl r ?_ 37 ev.toArray (0, 0) _ ?_ Tryd.underlying37 ?_ ?_ ?_); (· rfl); (· rfl); (· exact k0); (· rfl); (· rw [S_ev]; rfl); go_frame))
  refine HE0.out.mono ?_
  rintro e w1 ⟨A1, n1, c1, rfl, b1, x1⟩
  have X1 : Hid (Ext w w1) := x0.out.trans x1
  have K0 : Cb w1 r 37 ev := k0.ext x1
  have K1 : Hid (Ky w1 (r + 1) tag) := k1.out.ext x1
  replace b1 := Lib.hid b1
  clear k0 k1 x0 x1 HE0
  rcases hok : ok with _ | _
  · have F := Lib.hid (NO.out 1 (adE_arg (.inl hok)) (by decide) w1 X1.out)
    subst hok
    clear NO GE RX K0 b1 K1
    go_wp2_with fail
    (try simp only [Exit.inBlock, Exit.then])
    refine bodyPost_ret (results3 rfl _ _ _ _ _ rfl rfl rfl) rfl ?_
    exact F.out
  have b0 := K0.cell e0.out
  have b1c := K0.cell e1.out
  by_cases hft : fr = tw
  · have F := Lib.hid (NO.out 1 (adE_arg (.inr (.inl hft))) (by decide) w1 X1.out)
    have q1 : (fr == tw) = true := by simp [hft]
    subst hok
    clear NO GE RX b1 K1 K0 hft
    go_wp2_with fail
    (try simp only [Exit.inBlock, Exit.then])
    refine bodyPost_ret (results3 rfl _ _ _ _ _ rfl rfl rfl) rfl ?_
    exact F.out
  have q1 : (fr == tw) = false := by simp [hft]
  by_cases hn0 : now < 0
  · have F := Lib.hid (NO.out 1 (adE_arg (.inr (.inr (.inl hn0)))) (by decide) w1 X1.out)
    have q2 : decide (now < 0) = true := decide_eq_true hn0
    subst hok
    clear NO GE RX b1 K1 K0 hft
    go_wp2_with fail
    (try simp only [Exit.inBlock, Exit.then])
    refine bodyPost_ret (results3 rfl _ _ _ _ _ rfl rfl rfl) rfl ?_
    exact F.out
  have q2 : decide (now < 0) = false := decide_eq_false hn0
  by_cases hn1 : 1000000 < now
  · have F := Lib.hid (NO.out 1 (adE_arg (.inr (.inr (.inr hn1)))) (by decide) w1 X1.out)
    have q3 : decide (1000000 < now) = true := decide_eq_true hn1
    subst hok
    clear NO GE RX b1 K1 K0 hft
    go_wp2_with fail
    (try simp only [Exit.inBlock, Exit.then])
    refine bodyPost_ret (results3 rfl _ _ _ _ _ rfl rfl rfl) rfl ?_
    exact F.out
  have q3 : decide (1000000 < now) = false := decide_eq_false hn1
  have NB : ¬(fr = tw ∨ now < 0 ∨ 1000000 < now) := by
    rintro (z | z | z)
    · exact hft z
    · exact hn0 z
    · exact hn1 z
  replace NB := Lib.hid NB
  clear hft hn0 hn1
  have FN : Hid (∀ W, Ext w W → ∀ z : Int, -9223372036854775808 ≤ z → z ≤ 9223372036854775807 → Calls Tryd.prog 35 #[.pointer (some ⟨g, 0, none⟩), .int .i64 z] W fun e w' => e = .returned (adV g (fd f z)) ∧ w' = W) := fun W x z z1 z2 => by
    obtain ⟨s, hcb⟩ := (RX.out W x).cells
    exact find_calls hcb fok z1 z2
  have F0 : Hid (∀ s, Ext w1.drew s → s.cell? ⟨r, 0, none⟩ = some (.int .i64 fr) ∧ s.cell? ⟨r, 1, none⟩ = some (.int .i64 tw)) := fun s x => ⟨(K0.ext (Ext.trans (Ext.refl w1).drew x)).cell e0.out, (K0.ext (Ext.trans (Ext.refl w1).drew x)).cell e1.out⟩
  have X1d : Hid (Ext w w1.drew) := X1.out.drew
  have FA := Lib.hid (FN.out _ X1d.out fr f1 f2)
  have FB := Lib.hid (FN.out _ X1d.out tw t1 t2)
  subst hok
  have PK : Hid (Ky w1.drew (r + 1) tag ∧ Bs w1.drew A1 n1 c1 X) := ⟨K1.out, b1.out⟩
  clear K0 K1 b1 FN
  go_upto_region 6 with fail
  clear b0 b1c
  refine qgE [0, 1, 2, 4, 5, 6, 3, 7, 8, 9] [3, 7] ?_
  generalize w1.drew = V at *
  clear X1
  repeat ((first | refine qR _ (fun w' e => F0.out w' e) ?_ | refine qS ?_); go_frame)
  refine qD fun K_ hK => ?_
  go_simp
  refine FA.out.mono ?_
  rintro e w2 ⟨rfl, hw⟩
  subst hw
  refine hK.out _ _ (Ext.refl _) ?_
  clear hK K_
  try go_frame
  repeat ((first | refine qR _ (fun w' e => F0.out w' e) ?_ | refine qS ?_); go_frame)
  refine qD fun K_ hK => ?_
  go_simp
  refine FB.out.mono ?_
  rintro e w3 ⟨rfl, hw⟩
  subst hw
  refine hK.out _ _ (Ext.refl _) ?_
  clear hK K_
  try go_frame
  repeat ((first | refine qR0 ?_ | refine qS ?_); go_frame)
  refine seq_done ?_
  clear FA FB F0
  rcases hi : fd f fr with _ | i
  · have F := Lib.hid (NO.out 7 (adE_none rfl NB.out (.inl hi)) (by decide) w3 X1d.out)
    clear NO GE RX PK NB
    simp only [adV_none]
    go_wp2_with fail
    (try simp only [Exit.inBlock, Exit.then])
    refine bodyPost_ret (results3 rfl _ _ _ _ _ rfl rfl rfl) rfl ?_
    exact F.out
  rcases hj : fd f tw with _ | j
  · have F := Lib.hid (NO.out 7 (adE_none rfl NB.out (.inr hj)) (by decide) w3 X1d.out)
    clear NO GE RX PK NB
    simp only [adV_none, adV_some]
    go_wp2_with fail
    (try simp only [Exit.inBlock, Exit.then])
    refine bodyPost_ret (results3 rfl _ _ _ _ _ rfl rfl rfl) rfl ?_
    exact F.out
  obtain ⟨rfl, i8, a, ha⟩ := fd_some hi
  obtain ⟨rfl, j8, b, hb⟩ := fd_some hj
  have ADM := adE_in (X := X) (tg := tag) rfl NB.out ha i8 hb j8
  have H3 := RX.out w3 X1d.out
  have BL : Hid (Bs w3.drew (some ⟨g, 1 + i * 134 + 1, none⟩) 32 32 a.lk) := Bs.of_cells (H3.lens ha).1 H3.glt (H3.link ha i8)
  have YES : Hid (adE f true (i : Int) (j : Int) X tag now = 0 → ∀ W, Ext w W → AdmP w g f true (i : Int) (j : Int) X tag now (.returned (.tuple #[.pointer (some ⟨g, 1 + i * 134, none⟩), .pointer (some ⟨g, 1 + j * 134, none⟩), .int .i64 0])) W) := fun z W x => AdmP.yes z ha i8 hb j8 x rfl
  have AC : Hid (∀ W, Ext w W → W.cell? ⟨g, 1 + i * 134 + 133, none⟩ = some (.bool a.out) ∧ W.cell? ⟨g, 1 + j * 134 + 131, none⟩ = some (.pointer (some ⟨b.bx, 0, none⟩)) ∧ Calls Tryd.prog 72 #[.func (.func 36) #[.pointer (some ⟨b.bx, 0, none⟩)] #[]] W fun e w' => e = .returned (.int .i64 (b.L.length : Int)) ∧ Ext W w') := fun W x => ⟨(RX.out W x).at ha i8 (a.a0 ((RX.out W x).lens ha)).2.2.2.2, (RX.out W x).at hb j8 (b.a0 ((RX.out W x).lens hb)).2.2.1, many_calls ((RX.out W x).mb hb).1 ((RX.out W x).mb hb).2.1⟩
  have CK := Lib.hid (check_calls (w := w3.drew) (ts := tag) BL.out PK.out.2 ht (by omega) (GE.out _ X1d.out.drew))
  have K1 : Hid (Ky w3.drew (r + 1) tag) := PK.out.1
  have X3 : Hid (Ext w w3.drew) := X1d.out.drew
  have hmf : ∀ (fn : Fn) (first cap : Array Value) (w : World), (Instr.makeFunc fn first cap).run Tryd.prog w = .ok (.func fn first cap) w := fun _ _ _ _ => rfl
  clear PK X1d GE RX BL H3 NB hi hj
  simp only [adV_some]
  go_upto_region 9 with fail
  refine qgE [0, 1, 2, 3, 4, 5, 6, 7] [6] ?_
  generalize w3.drew = V at *
  have F0 : Hid (∀ s, Ext V s → s.heap[r + 1]? = some (.cells (cellsOf tag).toArray 23 (0, 0))) := fun s x => (K1.out.ext x).1
  iterate 5 ((first | refine qR0 ?_ | refine qS ?_); go_frame)
  refine qV rfl (fun w' => w'.heap[(r + 1)]? = some (.cells (cellsOf tag).toArray 23 (0, 0))) (fun w' e => F0.out w' e) (.agg (cellsOf tag).toArray) (fun w' hF => exec_load_row rfl rfl hF rfl rfl (by rw [S_t]; rfl)) ?_
  go_frame
  refine qD fun K_ hK => ?_
  go_simp
  refine CK.out.mono ?_
  rintro e w4 ⟨rfl, x4⟩
  refine hK.out _ _ x4 ?_
  clear hK K_
  try go_frame
  repeat ((first | refine qR0 ?_ | refine qS ?_); go_frame)
  refine seq_done ?_
  have X4 : Hid (Ext w w4) := X3.out.trans x4
  clear CK K1 X3 F0 x4
  by_cases hm : macL a.lk X = tag
  · rw [if_pos hm] at ADM
    rw [checkE_pos hm]
    clear hm
    obtain ⟨c5, c3, MN⟩ := AC.out w4 X4.out
    rcases ho : a.out with _ | _
    · rw [ho] at ADM c5
      replace ADM : adE f true (i : Int) (j : Int) X tag now = if 8 ≤ b.L.length then 8 else 0 := ADM
      replace MN := Lib.hid MN
      clear AC
      go_wp2_with fail
      refine MN.out.mono ?_
      rintro e w5 ⟨rfl, x5⟩
      have X5 : Hid (Ext w w5) := X4.out.trans x5
      by_cases h8 : 8 ≤ b.L.length
      · rw [if_pos h8] at ADM
        have F := Lib.hid (NO.out 8 ADM (by decide) w5 X5.out)
        have u8 : decide ((8 : Int) ≤ (b.L.length : Int)) = true := decide_eq_true (by omega)
        clear NO YES MN X4 x5 X5
        generalize b.L.length = bl at *
        go_wp2_with fail
        (try simp only [Exit.inBlock, Exit.then])
        refine bodyPost_ret (results3 rfl _ _ _ _ _ rfl rfl rfl) rfl ?_
        exact F.out
      · rw [if_neg h8] at ADM
        have F := Lib.hid (YES.out ADM w5 X5.out)
        have u8 : decide ((8 : Int) ≤ (b.L.length : Int)) = false := decide_eq_false (by omega)
        clear NO YES MN X4 x5 X5
        generalize b.L.length = bl at *
        go_wp2_with fail
        (try simp only [Exit.inBlock, Exit.then])
        refine bodyPost_ret (results3 rfl _ _ _ _ _ rfl rfl rfl) rfl ?_
        exact F.out
    · rw [ho] at ADM c5
      have F := Lib.hid (NO.out 11 ADM (by decide) w4 X4.out)
      clear NO YES AC MN X4
      go_wp2_with fail
      (try simp only [Exit.inBlock, Exit.then])
      refine bodyPost_ret (results3 rfl _ _ _ _ _ rfl rfl rfl) rfl ?_
      exact F.out
  · rw [if_neg hm] at ADM
    rw [checkE_neg hm]
    have F := Lib.hid (NO.out 4 ADM (by decide) w4 X4.out)
    clear NO YES AC X4 hm
    go_wp2_with fail
    (try simp only [Exit.inBlock, Exit.then])
    refine bodyPost_ret (results3 rfl _ _ _ _ _ rfl rfl rfl) rfl ?_
    exact F.out
end
end Go.Proofs.YtbnjmmefnjoofaaDoor
end
