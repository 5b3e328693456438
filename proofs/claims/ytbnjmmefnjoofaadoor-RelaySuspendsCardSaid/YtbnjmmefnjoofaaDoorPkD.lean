import Derived.Test.YtbnjmmefnjoofaaDoorPkP
import Derived.Test.YtbnjmmefnjoofaaDoorMac
section
/-
  octets.Same tells whether two rows of bytes are the same.
-/
namespace Go.Proofs.YtbnjmmefnjoofaaDoor
open Go.ChangeShapes Go.WideShapes Go.ChangeAt Go.RowKit Go.Deep

set_option maxHeartbeats 400000 in
theorem same_calls {A A' : Option Addr} {n c n' c' : Nat} {xs ys : List UInt8} {w : World} (h : Bs w A n c xs) (h' : Bs w A' n' c' ys) :
    Calls Tryd.prog 77 #[.slice A n c, .slice A' n' c'] w fun e w' => e = .returned (.bool (decide (xs = ys))) ∧ ∃ k, w' = w.drewN k := by
  have h1 := h.le
  have h2 := h.cap
  have h3 := h'.le
  have h4 := h'.cap
  by_cases hn : n = n'
  · subst hn
    have hl : xs.length = ys.length := h.len.trans h'.len.symm
    have hs : Hid (((differ xs ys n : Int) == 0) = decide (xs = ys)) := by
      unfold Hid
      rw [Bool.eq_iff_iff, decide_eq_true_iff, beq_iff_eq, Int.natCast_eq_zero, differ_zero, same_iff hl, h.len]
    have hl' := Lib.hid hl
    clear hl
    go_enter Tryd.func77, Tryd.ntmps77
    go_wp2
    go_loopw [5, 14] (fun d i wr => ∃ k m : Nat, k ≤ n ∧ i = .int .i64 k ∧ d = .int .u8 (differ xs ys k) ∧ wr = w.drewN m) (fun _ i _ => n - (intOf i).toNat)
    case atStart => exact ⟨0, 0, Nat.zero_le _, rfl, rfl, rfl⟩
    case round =>
      obtain ⟨k, m, hk, rfl, rfl, rfl⟩ := hrel
      by_cases hlt : k < n
      · obtain ⟨b, off, rfl, hb, hc⟩ := h.pos (by omega)
        obtain ⟨b', off', rfl, hb', hc'⟩ := h'.pos (by omega)
        have g1 := hc k hlt
        have g2 := hc' k hlt
        have hu := Lib.hid (u8_differ xs ys k)
        clear hc hc'
        go_wp2
        go_quiet (fail)
        go_wp2
        go_roundw
        case rel => exact ⟨k + 1, _, by omega, by go_num, by rw [← hu.out], rfl⟩
        case measure => simp [intOf]; omega
      · obtain rfl : k = n := by omega
        go_wp2
        go_ret
        exact ⟨ret_bool hs.out, m, rfl⟩
  · have hb : ((n : Int) != (n' : Int)) = true := by rw [bne_iff_ne]; omega
    go_enter Tryd.func77, Tryd.ntmps77
    go_wp2
    go_ret
    refine ⟨?_, 0, rfl⟩
    have : xs ≠ ys := fun e => hn (by rw [← h.len, ← h'.len, e])
    simp [this]

theorem same_ext {A A' : Option Addr} {n c n' c' : Nat} {xs ys : List UInt8} {w : World} {r : Bool} (h : Bs w A n c xs) (h' : Bs w A' n' c' ys) (hr : decide (xs = ys) = r) :
    Calls Tryd.prog 77 #[.slice A n c, .slice A' n' c'] w fun e w' => e = .returned (.bool r) ∧ Ext w w' :=
  (same_calls h h').mono fun _ _ ⟨he, k, hk⟩ => ⟨by rw [he, hr], by rw [hk]; exact (Ext.refl w).drewN k⟩
end Go.Proofs.YtbnjmmefnjoofaaDoor
end

section
/-
  blake.Check.
-/
namespace Go.Proofs.YtbnjmmefnjoofaaDoor
open Go.ChangeShapes Go.WideShapes Go.ChangeAt Go.RowKit Go.Deep

/-- What Check tells of a tag. -/
def checkE (ms ts : List UInt8) : Int := if ms = ts then 0 else 4
theorem checkE_pos {ms ts : List UInt8} (h : ms = ts) : checkE ms ts = 0 := if_pos h
theorem checkE_neg {ms ts : List UInt8} (h : ¬ ms = ts) : checkE ms ts = 4 := if_neg h
set_option maxRecDepth 100000 in
set_option maxHeartbeats 1000000 in
theorem check_long {A A' : Option Addr} {n c m d : Nat} {ks bs ts : List UInt8} {w : World} (h : Bs w A n c ks) (h' : Bs w A' m d bs) (ht : ts.length = 32) (hk : 32 < n) :
    Calls Tryd.prog 51 #[.slice A n c, .slice A' m d, .agg (cellsOf ts).toArray] w fun e w' => e = .returned (.int .i64 1) ∧ Ext w w' := by
  have hal : ∀ w, (zeroValue 23).run Tryd.prog w = .ok (.agg zeros32) w := fun _ => by kernel_rfl
  have hz0 := zeros32_size
  have hz1 := zeros32_one
  have CALL : Hid (∀ W, Ext w W → Calls Tryd.prog 43 #[.slice A n c, .slice A' m d] W fun e w' => e = .returned (.tuple #[.agg zeros32, .int .i64 1]) ∧ Ext W w') := fun W e => by
    have := mac_long (h.ext e) (h'.ext e) hk
    rwa [zeros32_cells] at this
  generalize zeros32 = Z at *
  generalize (cellsOf ts).toArray = T at *
  go_enter Tryd.func51, Tryd.ntmps51
  go_wp2_with fail
  refine (CALL.out _ ((Ext.refl w).alloc _)).mono ?_
  rintro e w1 ⟨rfl, e1⟩
  go_wp2_with (refine wpList_store_row rfl 23 _ _ rfl w1.heap.size Z rfl rfl 23 _ (by with_reducible exact heap_alloc_new _ _) (by rw [hz0]; rfl) rfl hz1 ?_)
  go_ret
  exact ⟨rfl, below_setRow (((((Ext.refl w).alloc _).trans e1)).alloc _) (Nat.le_trans (by simp) e1.size) _⟩

set_option maxRecDepth 100000 in
set_option maxHeartbeats 1000000 in
theorem check_calls {A A' : Option Addr} {n c m d : Nat} {ks bs ts : List UInt8} {w : World} (h : Bs w A n c ks) (h' : Bs w A' m d bs) (ht : ts.length = 32) (hk : n ≤ 32) {tg : TypeId × Nat × Nat} (hG : Gl w tg) :
    Calls Tryd.prog 51 #[.slice A n c, .slice A' m d, .agg (cellsOf ts).toArray] w fun e w' => e = .returned (.int .i64 (checkE (macL ks bs) ts)) ∧ Ext w w' := by
  have hal : ∀ w, (zeroValue 23).run Tryd.prog w = .ok (.agg zeros32) w := fun _ => by kernel_rfl
  have hz0 := zeros32_size
  have CALL : Hid (∀ W, Ext w W → Calls Tryd.prog 43 #[.slice A n c, .slice A' m d] W fun e w' => e = .returned (.tuple #[.agg (cellsOf (macL ks bs)).toArray, .int .i64 0]) ∧ Ext W w') := fun W e => mac_calls (h.ext e) (h'.ext e) hk (hG.kept e hG.lt)
  clear hG
  have ML := macL_len ks bs
  generalize zeros32 = Z at *
  generalize macL ks bs = ms at *
  have HM : (cellsOf ms).toArray.size = 32 := by simp [cellsOf_len, ML]
  have HM1 := cellsOf_one ms
  have hT : Hid (∀ w : World, (w.alloc (Obj.cells (cellsOf ts).toArray 23)).heap[w.heap.size]? = some (Obj.cells (cellsOf ts).toArray 23)) := fun w => heap_alloc_new _ _
  generalize hTT : (cellsOf ts).toArray = T at *
  replace hTT := Lib.hid hTT
  go_enter Tryd.func51, Tryd.ntmps51
  go_wp2_with fail
  refine (CALL.out _ ((Ext.refl w).alloc _)).mono ?_
  rintro e w1 ⟨rfl, e1⟩
  have r0 := Lib.hid ((e1.block w.heap.size (by rw [size_alloc]; omega)).trans (hT.out w))
  have e0 : Hid (Ext w w1) := ((Ext.refl w).alloc _).trans e1
  clear CALL hT e1
  go_wp2_with (refine wpList_store_row rfl 23 _ _ rfl w1.heap.size (cellsOf ms).toArray rfl rfl 23 _ (by with_reducible exact heap_alloc_new _ _) (by rw [HM]; rfl) (by rw [HM]; exact hz0) HM1 ?_)
  refine wp_gen (fun W => Ext w W ∧ W.heap[w.heap.size]? = some (Obj.cells T 23 (0, 0)) ∧ W.heap[w1.heap.size]? = some (Obj.cells (cellsOf ms).toArray 23 (0, 0))) ⟨below_setRow (e0.out.alloc _) e0.out.size _, (setRow_other _ _ _ _ (Nat.ne_of_lt (heap_lt r0.out))).trans (((Ext.refl w1).alloc _ |>.block _ (heap_lt r0.out)).trans r0.out), setRow_heap _ _ _ _ _ _ (heap_alloc_new _ _)⟩ ?_
  rintro W ⟨e2, t2, m2⟩
  rw [← hTT.out] at t2
  replace e2 := Lib.hid e2
  replace t2 := Lib.hid (Bs.key t2 ht)
  replace m2 := Lib.hid (Bs.key m2 ML)
  clear e0 r0
  by_cases hq : ms = ts
  · have SAME : Hid (∀ W', Ext W W' → Calls Tryd.prog 77 #[.slice (some ⟨w1.heap.size, 0, none⟩) 32 32, .slice (some ⟨w.heap.size, 0, none⟩) 32 32] W' fun e w' => e = .returned (.bool true) ∧ Ext W' w') := fun W' e => same_ext (m2.out.ext e) (t2.out.ext e) (by simpa using hq)
    have HQ := Lib.hid hq
    clear hq
    refine qgE [0, 1, 2, 3] [2] ?_
    repeat ((first | refine qR0 ?_ | refine qS ?_); go_frame)
    refine qD fun K hK => ?_
    go_simp
    refine (SAME.out _ (Ext.refl _).drew).mono ?_
    rintro e w2 ⟨rfl, e3⟩
    refine hK.out _ _ e3 ?_
    clear hK K
    try go_frame
    repeat ((first | refine qR0 ?_ | refine qS ?_); go_frame)
    refine seq_done ?_
    go_wp2_with fail
    go_ret
    exact ⟨by rw [checkE_pos HQ.out]; rfl, e2.out.drew.trans e3⟩
  · have SAME : Hid (∀ W', Ext W W' → Calls Tryd.prog 77 #[.slice (some ⟨w1.heap.size, 0, none⟩) 32 32, .slice (some ⟨w.heap.size, 0, none⟩) 32 32] W' fun e w' => e = .returned (.bool false) ∧ Ext W' w') := fun W' e => same_ext (m2.out.ext e) (t2.out.ext e) (by simpa using hq)
    have HQ := Lib.hid hq
    clear hq
    refine qgE [0, 1, 2, 3] [2] ?_
    repeat ((first | refine qR0 ?_ | refine qS ?_); go_frame)
    refine qD fun K hK => ?_
    go_simp
    refine (SAME.out _ (Ext.refl _).drew).mono ?_
    rintro e w2 ⟨rfl, e3⟩
    refine hK.out _ _ e3 ?_
    clear hK K
    try go_frame
    repeat ((first | refine qR0 ?_ | refine qS ?_); go_frame)
    refine seq_done ?_
    go_wp2_with fail
    go_ret
    exact ⟨by rw [checkE_neg HQ.out]; rfl, e2.out.drew.trans e3⟩
end Go.Proofs.YtbnjmmefnjoofaaDoor
end
