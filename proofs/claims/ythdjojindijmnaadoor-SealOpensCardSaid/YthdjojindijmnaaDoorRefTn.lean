/-
  The document's Turn (layer 4).
-/
import Derived.Test.YthdjojindijmnaaDoorRefBlk
import Derived.Test.YthdjojindijmnaaDoorTurn
import Derived.Test.YthdjojindijmnaaDoorOne8
import Derived.Test.YthdjojindijmnaaDoorXor
namespace Go.Proofs.YthdjojindijmnaaDoor
open Go.ChangeShapes Go.WideShapes Go.ChangeAt Go.RowKit Go.Deep
set_option maxRecDepth 100000

theorem gr_row4 (w : World) (g : Nat) (C : Array Value) : w.grownBy (w.setRow g C) (some g) :=
  ⟨rfl, rfl, rfl, by simp, fun i _ hne => setRow_other _ _ _ _ (fun q => hne (by rw [q]))⟩
theorem turn_snoc {ks ns bs : List UInt8} {n k : Nat} (h : k < bs.length) : (turnL ks ns n bs).take k ++ [UInt8.ofNat (bt bs k ^^^ keyB ks ns n k)] = (turnL ks ns n bs).take (k + 1) := by
  rw [List.take_succ_eq_append_getElem (by rw [turnL_len]; exact h)]
  congr 1
  simp [turnL]
/-- The worlds of the document's Turn: the key, the nonce, the block. -/
def Tv (w wr : World) (ks ns X : List UInt8) : Prop :=
  Ext w wr ∧ Ky wr w.heap.size ks ∧ wr.heap[w.heap.size + 1]? = some (.cells (cellsOf ns).toArray 73 (0, 0)) ∧ K64 wr (w.heap.size + 1 + 1) X
theorem Tv.below {w wr wr' : World} {ks ns X : List UInt8} (h : Tv w wr ks ns X) (e : Below (w.heap.size + 1 + 1 + 1) wr wr') : Tv w wr' ks ns X :=
  ⟨Below.trans h.1 (e.mono (by omega)), ⟨(e.block _ (by omega)).trans h.2.1.1, h.2.1.2⟩, (e.block _ (by omega)).trans h.2.2.1, ⟨(e.block _ (by omega)).trans h.2.2.2.1, h.2.2.2.2⟩⟩
theorem Tv.size {w wr : World} {ks ns X : List UInt8} (h : Tv w wr ks ns X) : w.heap.size + 1 + 1 + 1 ≤ wr.heap.size := heap_lt h.2.2.2.1

set_option maxHeartbeats 2000000 in
theorem refTurn4_own {ks ns bs : List UInt8} {n : Nat} {A : Option Addr} {L c : Nat} {w : World} (hk : ks.length = 32) (hn : ns.length = 12) (hN : n < 4294967296) (h : Bs w A L c bs) (hL : L ≤ 1000000) :
    Calls Tryd.prog 45 #[.agg (cellsOf ks).toArray, .agg (cellsOf ns).toArray, .int .u32 (n : Int), .slice A L c] w (RetOwn (turnL ks ns n bs) w) := by
  have h1 := h.le
  have h2 := h.cap
  have hbl := h.len
  have KS : (cellsOf ks).toArray.size = 32 := by simp [cellsOf_len, hk]
  have NS : (cellsOf ns).toArray.size = 12 := by simp [cellsOf_len, hn]
  have hal : ∀ w, (zeroValue 79).run Tryd.prog w = .ok (.agg (cellsOf (List.replicate 64 0)).toArray) w := fun _ => by kernel_rfl
  have BLK : Hid (∀ (W : World) (m : Nat), m < 4294967296 → Calls Tryd.prog 57 #[.agg (cellsOf ks).toArray, .agg (cellsOf ns).toArray, .int .u32 (m : Int)] W fun e w' => e = .returned (.agg (cellsOf (blockL ks ns m)).toArray) ∧ Ext W w') := fun W m hm => refBlock_calls hk hn hm
  have SNOC : Hid (∀ k, k < L → (turnL ks ns n bs).take k ++ [UInt8.ofNat (bt bs k ^^^ bt (blockL ks ns ((n + k / 64) % 4294967296)) (k % 64))] = (turnL ks ns n bs).take (k + 1)) := fun k hk => turn_snoc (by rw [hbl]; exact hk)
  have TL := (turnL_len ks ns n bs).trans hbl
  have BLL : Hid (∀ m, (blockL ks ns m).length = 64) := fun m => blockL_len ks ns m
  generalize turnL ks ns n bs = T at *
  have hB := Lib.hid h
  clear h
  have zl : (List.replicate 64 (0 : UInt8)).length = 64 := by simp
  generalize List.replicate 64 (0 : UInt8) = zs at *
  have T0 : Hid (Tv w (((w.alloc (Obj.cells (cellsOf ks).toArray 23)).alloc (Obj.cells (cellsOf ns).toArray 73)).alloc (Obj.cells (cellsOf zs).toArray 79)) ks ns zs) := ⟨(((Ext.refl w).alloc _).alloc _).alloc _, ⟨heap_alloc30 _ _ _ _, hk⟩, heap_alloc31 _ _ _ _, ⟨heap_alloc32 _ _ _ _, zl⟩⟩
  go_enter Tryd.func45, Tryd.ntmps45
  go_wp2_with fail
  go_loopw [9, 11] (fun v i wr => ∃ (k : Nat) (D : Option Addr) (cc : Nat) (X : List UInt8), k ≤ L ∧ i = .int .i64 (k : Int) ∧ v = .slice D k cc ∧ Own (w.heap.size + 1 + 1 + 1) wr D k cc (T.take k) ∧ Tv w wr ks ns X ∧ (0 < k → X = blockL ks ns ((n + (k - 1) / 64) % 4294967296))) (fun _ i _ => L - (intOf i).toNat)
  case atStart => exact ⟨0, none, 0, zs, Nat.zero_le _, rfl, rfl, Own.nil _ _, T0.out, fun q => absurd q (by omega)⟩
  case round =>
    obtain ⟨k, D, cc, X, hkL, rfl, rfl, ho, tv, hX⟩ := hrel
    clear T0 zl hal
    by_cases hlt : k < L
    · obtain ⟨b, off, rfl, hb, hc⟩ := hB.out.pos (by omega)
      obtain ⟨r, hr⟩ : ∃ r, r = k % 64 := ⟨_, rfl⟩
      obtain ⟨a, ha⟩ : ∃ a, a = k / 64 := ⟨_, rfl⟩
      have r64 : r < 64 := by omega
      have r64' : (r : Int) < 64 := by omega
      have r0 : (0 : Int) ≤ (r : Int) := by omega
      have f1 : Int.tmod (k : Int) 64 = (r : Int) := by rw [Int.tmod_eq_emod_of_nonneg (by omega)]; omega
      have f2 : Int.tdiv (k : Int) 64 = (a : Int) := by rw [Int.tdiv_eq_ediv_of_nonneg (by omega)]; omega
      have f3 : (k : Int) % 64 = (r : Int) := by omega
      have f4 : (k : Int) / 64 = (a : Int) := by omega
      have kL : (k : Int) < (L : Int) := by omega
      have k0 : (0 : Int) ≤ (k : Int) := by omega
      have fr1 : ((r : Int)).toNat = r := by omega
      have fk1 : ((k : Int)).toNat = k := by omega
      have aw : IntKind.i64.wrap (a : Int) = (a : Int) := IntWalk.i64_in _ (by omega)
      have au : IntKind.u32.wrap (a : Int) = (a : Int) := by rw [IntKind.wrap_u32]; omega
      obtain ⟨q, hq⟩ : ∃ q, q = (n + a) % 4294967296 := ⟨_, rfl⟩
      have q32 : q < 4294967296 := by omega
      have nq : IntKind.u32.wrap ((n : Int) + (a : Int)) = (q : Int) := by rw [IntKind.wrap_u32]; omega
      have nq2 : ((n : Int) + (a : Int)) % 4294967296 = (q : Int) := by omega
      have SN := Lib.hid (SNOC.out k hlt)
      rw [← ha, ← hr, ← hq] at SN
      have BL := Lib.hid (BLK.out wr q q32)
      have BQ := BLL.out q
      have hXq : Hid (r ≠ 0 → X = blockL ks ns q) := fun hr0 => by
        rw [hX (by omega), hq, ha, show (k - 1) / 64 = k / 64 by omega]
      have hXn : Hid ((n + (k + 1 - 1) / 64) % 4294967296 = q) := by
        unfold Hid
        rw [hq, ha, Nat.add_sub_cancel]
      have HX : Hid (blockL ks ns q = blockL ks ns ((n + (k + 1 - 1) / 64) % 4294967296)) := by unfold Hid; rw [hXn.out]
      have cB : Hid (∀ w', Ext wr w' → w'.cell? ⟨b, off + k, none⟩ = some (.int .u8 (bt bs k : Int))) := fun w' e => ((tv.1.trans e).cell hb).trans (hc k hlt)
      have hcb : Hid (∀ w', Ext w w' → w'.cell? ⟨b, off + k, none⟩ = some (.int .u8 (bt bs k : Int))) := fun w' e => (e.cell hb).trans (hc k hlt)
      have zk := bt_lt bs k
      generalize blockL ks ns q = Y at *
      clear hX hXn hb hc
      replace hr := Lib.hid hr
      replace ha := Lib.hid ha
      replace hq := Lib.hid hq
      replace ho := Lib.hid ho
      have XS : (cellsOf X).toArray.size = 64 := by simp [cellsOf_len, tv.2.2.2.2]
      have YS : (cellsOf Y).toArray.size = 64 := by simp [cellsOf_len, BQ]
      have Y1 := cellsOf_one Y
      replace tv := Lib.hid tv
      have zy := bt_lt Y r
      have xx : bits .xor .u8 (bt bs k : Int) (bt Y r : Int) = ((bt bs k ^^^ bt Y r : Nat) : Int) := u8_xor_nat _ _ zk zy
      have x256 : bt bs k ^^^ bt Y r < 256 := xor_lt256 zk zy
      have hv8 : Hid (((bt bs k ^^^ bt Y r : Nat) : Int) = ((UInt8.ofNat (bt bs k ^^^ bt Y r)).toNat : Int)) := by
        unfold Hid
        rw [UInt8.toNat_ofNat', Nat.mod_eq_of_lt x256]
      generalize bt bs k ^^^ bt Y r = z at *
      have z256 : Hid (z < 256) := x256
      clear x256
      by_cases h0 : r = 0
      · have h0' : (r : Int) = 0 := by omega
        have h0b : ((r : Int) == 0) = true := by simpa using h0
        replace h0 := Lib.hid h0
        have nb := tv.out.2.2.1
        have kb := tv.out.2.1
        replace nb := Lib.hid nb
        replace kb := Lib.hid kb
        go_wp2_with (first
          | (refine wpList_exec rfl (exec_load_row rfl rfl kb.out.1 rfl rfl (by rw [KS]; rfl)) ?_; simp only [Act.put, List.setIfInBounds_toArray, List.set_cons_zero, List.set_cons_succ])
          | (refine wpList_exec rfl (exec_load_row rfl rfl nb.out rfl rfl (by rw [NS]; rfl)) ?_; simp only [Act.put, List.setIfInBounds_toArray, List.set_cons_zero, List.set_cons_succ]))
        refine BL.out.mono ?_
        rintro e w1 ⟨rfl, e1⟩
        have r1 := Lib.hid ((e1.block _ (heap_lt tv.out.2.2.2.1)).trans tv.out.2.2.2.1)
        have E1 : Hid (Below (w.heap.size + 1 + 1) wr (w1.setRow (w.heap.size + 1 + 1) (cellsOf Y).toArray)) := below_setRow (e1.mono (by have := tv.out.size; omega)) (Nat.le_refl _) _
        have TV : Hid (Tv w (w1.setRow (w.heap.size + 1 + 1) (cellsOf Y).toArray) ks ns Y) := by
          obtain ⟨p1, p2, p3, p4⟩ := tv.out
          exact ⟨Below.trans p1 (E1.out.mono (by omega)), ⟨(E1.out.block _ (by omega)).trans p2.1, p2.2⟩, (E1.out.block _ (by omega)).trans p3, ⟨setRow_heap _ _ _ _ _ _ r1.out, BQ⟩⟩
        have OO : Hid (Own (w.heap.size + 1 + 1 + 1) (w1.setRow (w.heap.size + 1 + 1) (cellsOf Y).toArray) D k cc (T.take k)) := (ho.out.ext e1).kept (gr_row4 w1 _ _) (.inr (fun q => by have := ho.out.ge _ (show _ = some (w.heap.size + 1 + 1) from q); omega))
        have CB : Hid (∀ w', Below (w.heap.size + 1 + 1 + 1) (w1.setRow (w.heap.size + 1 + 1) (cellsOf Y).toArray) w' → w'.cell? ⟨b, off + k, none⟩ = some (.int .u8 (bt bs k : Int))) := fun w' e => hcb.out _ (Below.trans (Below.trans tv.out.1 (E1.out.mono (by omega))) (e.mono (by omega)))
        clear kb nb
        go_upto_region 8 with (refine wpList_store_row rfl 79 _ _ rfl (w.heap.size + 1 + 1) (cellsOf Y).toArray rfl rfl 79 (cellsOf X).toArray r1.out (by rw [YS]; rfl) (by rw [YS, XS]) Y1 ?_; simp only [Act.put, List.setIfInBounds_toArray, List.set_cons_zero, List.set_cons_succ])
        clear h0' h0b
        generalize w1.setRow (w.heap.size + 1 + 1) (cellsOf Y).toArray = w3 at *
        clear r1 E1 e1 tv ho cB hXq BL BLK SNOC BLL
        have tvs := TV.out.size
        have kY := TV.out.2.2.2
        have KP : Hid (∀ w', Below (w.heap.size + 1 + 1 + 1) w3 w' → w'.cell? ⟨b, off + k, none⟩ = some (.int .u8 (bt bs k : Int)) ∧ w'.cell? ⟨w.heap.size + 1 + 1, r, none⟩ = some (.int .u8 (bt Y r : Int))) := fun w' e => by
          have := TV.out.below e
          exact And.intro (CB.out w' e) (this.2.2.2.cell r64)
        clear kY
        refine wp_region_seq (R := Below (w.heap.size+1+1+1)) (Below.refl _) (fun _ _ _ => Below.trans) [0, 1, 2, 3, 4, 5, 6, 7, 8, 9, 10, 11, 12] [10, 11] [(0, 30, 1024), (0, 31, 16), (0, 32, 4096), (6, 33, 6442450944), (8, 34, 8589934592), (0, 35, 4096), (32, 36, 34359738368), (64, 37, 68719478784), (128, 38, 137438953472), (272, 39, 292057776128), (512, 40, 549755813888), (1025, 41, 1100585369600), (4095, 10, 2199023255552)] (by kernel_rfl) (by kernel_rfl) (by kernel_rfl) rfl (by kernel_rfl) (by kernel_rfl) (fun _ _ d _ _ h => by cases d <;> exact h) ?_
        repeat (first | (refine seq_read _ (fun w' e => KP.out w' (Below.trans ((Ext.refl _).drew.mono tvs) e)) _ (v := ?_) rfl rfl (by rfl) ?_ ?_; rotate_left; (· intro w' hF; go_simp; (try with_reducible rfl)); simp only [Act.put, List.setIfInBounds_toArray, List.set_cons_zero, List.set_cons_succ]) | (refine seq_skip _ rfl rfl (by rfl) ?_; simp only [Act.put, List.setIfInBounds_toArray, List.set_cons_zero, List.set_cons_succ]))
        refine seq_do _ rfl rfl (by rfl) (fun K1 hK1 => ?_)
        go_simp
        have tw := Lib.hid (TV.out.below ((Ext.refl w3).drew.mono tvs))
        have ow := Lib.hid (OO.out.drew)
        have e1 : Ext w3.drew (w3.drew.alloc (.cells #[.int .u8 (z : Int)] 5)) := (Ext.refl _).alloc _
        have zb : w.heap.size + 1 + 1 + 1 ≤ w3.drew.heap.size := tvs
        have bz := Lib.hid (Bs.one8 w3.drew 5 (UInt8.ofNat z) _ hv8.out)
        refine hK1.out _ _ (e1.mono zb) ?_
        clear hK1 K1
        try simp only [Act.put, List.setIfInBounds_toArray, List.set_cons_zero, List.set_cons_succ]
        repeat (first | (refine seq_read _ (fun w' e => KP.out w' (Below.trans ((Ext.refl _).drew.mono tvs) (Below.trans (e1.mono zb) e))) _ (v := ?_) rfl rfl (by rfl) ?_ ?_; rotate_left; (· intro w' hF; go_simp; (try with_reducible rfl)); simp only [Act.put, List.setIfInBounds_toArray, List.set_cons_zero, List.set_cons_succ]) | (refine seq_skip _ rfl rfl (by rfl) ?_; simp only [Act.put, List.setIfInBounds_toArray, List.set_cons_zero, List.set_cons_succ]))
        refine seq_do _ rfl rfl (by rfl) (fun K1 hK1 => ?_)
        refine wp_append_bs rfl rfl rfl (ow.out.ext e1) bz.out (by omega) (Nat.le_trans zb e1.size) ?_
        intro D' cc' w2 ho2 hg2 hbl2
        refine hK1.out _ _ hbl2 ?_
        clear hK1 K1
        try simp only [Act.put, List.setIfInBounds_toArray, List.set_cons_zero, List.set_cons_succ]
        repeat (first | (refine seq_read (fun _ => True) (fun _ _ => trivial) _ (v := ?_) rfl rfl (by rfl) ?_ ?_; rotate_left; (· intro w' hF; go_simp; (try with_reducible rfl)); simp only [Act.put, List.setIfInBounds_toArray, List.set_cons_zero, List.set_cons_succ]) | (refine seq_skip _ rfl rfl (by rfl) ?_; simp only [Act.put, List.setIfInBounds_toArray, List.set_cons_zero, List.set_cons_succ]))
        refine seq_done ?_
        have tv2 := Lib.hid ((tw.out.below (e1.mono zb)).below hbl2)
        rw [SN.out] at ho2
        replace ho2 := Lib.hid ho2
        clear hg2 hbl2 bz ow tw e1 KP
        go_wp2_with fail
        refine ⟨⟨k + 1, D', cc', Y, by omega, by go_num, rfl, ho2.out, tv2.out, fun _ => HX.out⟩, by simp [intOf]; omega⟩
      · obtain rfl : Y = X := (hXq.out h0).symm
        have TV := tv
        have OO := ho
        have CB : Hid (∀ w', Below (w.heap.size + 1 + 1 + 1) wr w' → w'.cell? ⟨b, off + k, none⟩ = some (.int .u8 (bt bs k : Int))) := fun w' e => hcb.out _ (Below.trans tv.out.1 (e.mono (by omega)))
        have h0' : ¬ (r : Int) = 0 := by omega
        have h0b : ((r : Int) == 0) = false := by simpa using h0
        go_upto_region 8 with fail
        clear h0' h0b
        replace h0 := Lib.hid h0
        generalize hwr : wr = w3 at *
        clear hwr cB hXq BL BLK SNOC BLL
        have tvs := TV.out.size
        have kY := TV.out.2.2.2
        have KP : Hid (∀ w', Below (w.heap.size + 1 + 1 + 1) w3 w' → w'.cell? ⟨b, off + k, none⟩ = some (.int .u8 (bt bs k : Int)) ∧ w'.cell? ⟨w.heap.size + 1 + 1, r, none⟩ = some (.int .u8 (bt Y r : Int))) := fun w' e => by
          have := TV.out.below e
          exact And.intro (CB.out w' e) (this.2.2.2.cell r64)
        clear kY
        refine wp_region_seq (R := Below (w.heap.size+1+1+1)) (Below.refl _) (fun _ _ _ => Below.trans) [0, 1, 2, 3, 4, 5, 6, 7, 8, 9, 10, 11, 12] [10, 11] [(0, 30, 1024), (0, 31, 16), (0, 32, 4096), (6, 33, 6442450944), (8, 34, 8589934592), (0, 35, 4096), (32, 36, 34359738368), (64, 37, 68719478784), (128, 38, 137438953472), (272, 39, 292057776128), (512, 40, 549755813888), (1025, 41, 1100585369600), (4095, 10, 2199023255552)] (by kernel_rfl) (by kernel_rfl) (by kernel_rfl) rfl (by kernel_rfl) (by kernel_rfl) (fun _ _ d _ _ h => by cases d <;> exact h) ?_
        repeat (first | (refine seq_read _ (fun w' e => KP.out w' (Below.trans ((Ext.refl _).drew.mono tvs) e)) _ (v := ?_) rfl rfl (by rfl) ?_ ?_; rotate_left; (· intro w' hF; go_simp; (try with_reducible rfl)); simp only [Act.put, List.setIfInBounds_toArray, List.set_cons_zero, List.set_cons_succ]) | (refine seq_skip _ rfl rfl (by rfl) ?_; simp only [Act.put, List.setIfInBounds_toArray, List.set_cons_zero, List.set_cons_succ]))
        refine seq_do _ rfl rfl (by rfl) (fun K1 hK1 => ?_)
        go_simp
        have tw := Lib.hid (TV.out.below ((Ext.refl w3).drew.mono tvs))
        have ow := Lib.hid (OO.out.drew)
        have e1 : Ext w3.drew (w3.drew.alloc (.cells #[.int .u8 (z : Int)] 5)) := (Ext.refl _).alloc _
        have zb : w.heap.size + 1 + 1 + 1 ≤ w3.drew.heap.size := tvs
        have bz := Lib.hid (Bs.one8 w3.drew 5 (UInt8.ofNat z) _ hv8.out)
        refine hK1.out _ _ (e1.mono zb) ?_
        clear hK1 K1
        try simp only [Act.put, List.setIfInBounds_toArray, List.set_cons_zero, List.set_cons_succ]
        repeat (first | (refine seq_read _ (fun w' e => KP.out w' (Below.trans ((Ext.refl _).drew.mono tvs) (Below.trans (e1.mono zb) e))) _ (v := ?_) rfl rfl (by rfl) ?_ ?_; rotate_left; (· intro w' hF; go_simp; (try with_reducible rfl)); simp only [Act.put, List.setIfInBounds_toArray, List.set_cons_zero, List.set_cons_succ]) | (refine seq_skip _ rfl rfl (by rfl) ?_; simp only [Act.put, List.setIfInBounds_toArray, List.set_cons_zero, List.set_cons_succ]))
        refine seq_do _ rfl rfl (by rfl) (fun K1 hK1 => ?_)
        refine wp_append_bs rfl rfl rfl (ow.out.ext e1) bz.out (by omega) (Nat.le_trans zb e1.size) ?_
        intro D' cc' w2 ho2 hg2 hbl2
        refine hK1.out _ _ hbl2 ?_
        clear hK1 K1
        try simp only [Act.put, List.setIfInBounds_toArray, List.set_cons_zero, List.set_cons_succ]
        repeat (first | (refine seq_read (fun _ => True) (fun _ _ => trivial) _ (v := ?_) rfl rfl (by rfl) ?_ ?_; rotate_left; (· intro w' hF; go_simp; (try with_reducible rfl)); simp only [Act.put, List.setIfInBounds_toArray, List.set_cons_zero, List.set_cons_succ]) | (refine seq_skip _ rfl rfl (by rfl) ?_; simp only [Act.put, List.setIfInBounds_toArray, List.set_cons_zero, List.set_cons_succ]))
        refine seq_done ?_
        have tv2 := Lib.hid ((tw.out.below (e1.mono zb)).below hbl2)
        rw [SN.out] at ho2
        replace ho2 := Lib.hid ho2
        clear hg2 hbl2 bz ow tw e1 KP
        go_wp2_with fail
        refine ⟨⟨k + 1, D', cc', Y, by omega, by go_num, rfl, ho2.out, tv2.out, fun _ => HX.out⟩, by simp [intOf]; omega⟩
    · obtain rfl : k = L := by omega
      have hT : T.take k = T := List.take_of_length_le (by omega)
      rw [hT] at ho
      have HO := Lib.hid (ho.lower (B' := w.heap.size) (by omega))
      have ht := tv.1
      clear ho tv
      go_wp2_with fail
      go_ret
      exact ⟨_, _, _, rfl, HO.out, ht⟩

theorem refTurn4_calls {ks ns bs : List UInt8} {n : Nat} {A : Option Addr} {L c : Nat} {w : World} (hk : ks.length = 32) (hn : ns.length = 12) (hN : n < 4294967296) (h : Bs w A L c bs) (hL : L ≤ 1000000) :
    Calls Tryd.prog 45 #[.agg (cellsOf ks).toArray, .agg (cellsOf ns).toArray, .int .u32 (n : Int), .slice A L c] w (RetBs (turnL ks ns n bs) w) :=
  (refTurn4_own hk hn hN h hL).mono fun _ _ ⟨A, n, c, he, ho, x⟩ => ⟨A, n, c, he, ho.bs, x⟩
end Go.Proofs.YthdjojindijmnaaDoor
