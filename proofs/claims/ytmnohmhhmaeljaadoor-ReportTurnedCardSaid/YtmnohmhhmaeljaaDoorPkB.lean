import Derived.Test.YtmnohmhhmaeljaaDoorPkK
import Derived.Test.YtmnohmhhmaeljaaDoorPkJ
import Derived.Test.YtmnohmhhmaeljaaDoorPkD
import Derived.Test.YtmnohmhhmaeljaaDoorSeqZ
section
/-
  The document's Join.
-/
namespace Go.Proofs.YtmnohmhhmaeljaaDoor
open Go.ChangeShapes Go.WideShapes Go.ChangeAt Go.RowKit Go.Deep

set_option maxHeartbeats 1000000 in
theorem refJoin_calls {A : Option Addr} {n c : Nat} {l : List (List UInt8)} {w : World} (h : Rw w A n c l) (hm : (joinL l).length ≤ 100000000) :
    Calls Tryd.prog 50 #[.slice A n c] w (RetBs (joinL l) w) := by
  have h1 := h.le
  have h2 := h.cap
  go_enter Tryd.func50, Tryd.ntmps50
  go_wp2
  go_loopw [3, 4] (fun v i wr => ∃ (j cc : Nat) (D : Option Addr), j ≤ n ∧ i = .int .i64 j ∧ v = .slice D (sizeAt l j) cc ∧ Own w.heap.size wr D (sizeAt l j) cc (joinL (l.take j)) ∧ Ext w wr) (fun _ i _ => n - (intOf i).toNat)
  case atStart => exact ⟨0, _, _, Nat.zero_le _, rfl, rfl, Own.nil _ _, Ext.refl w⟩
  case round =>
    obtain ⟨j, cc, D, hj, rfl, rfl, ho, hE⟩ := hrel
    by_cases hlj : j < n
    · obtain ⟨b, off, rfl, hb, hc⟩ := h.pos (by omega)
      obtain ⟨A', n', c', g1', g2⟩ := hc j (by omega)
      have t3 := g2.le
      have t4 := g2.cap
      have hszj := hE.size
      have hb1 : sizeAt l (j + 1) ≤ 100000000 := Nat.le_trans (joinL_le l (j + 1)) hm
      have hs : Hid (sizeAt l (j + 1) = sizeAt l j + 4 + n') := by
        unfold Hid sizeAt
        rw [joinL_len_snoc (by rw [h.len]; omega), g2.len]
        omega
      have hb2 : n' + 4 + sizeAt l j ≤ 100000000 := by have := hs.out; omega
      have hjn : Hid (joinL (l.take (j + 1)) = joinL (l.take j) ++ (lowL n' 4).reverse ++ l.getD j []) := by
        unfold Hid
        rw [joinL_snoc (by rw [h.len]; omega), row4, g2.len, List.append_assoc]
      have q1 : (0 : Int) ≤ (j : Int) := by omega
      have q2 : (j : Int) < (n : Int) := by omega
      have q3 : (n' : Int).toNat = n' := by omega
      have q4 : IntKind.u64.wrap (n' : Int) = (n' : Int) := IntWalk.u64_in _ (by omega)
      have KEEP : Hid (∀ w', Ext w w' → w'.cell? ⟨b, off + j, none⟩ = some (.slice A' n' c')) := fun w' e => (e.cell hb).trans g1'
      clear hc g1'
      go_wp2
      refine qgB w.heap.size [0, 1, 2, 3, 4, 5, 6, 9, 10, 11, 12, 7, 8, 13, 14] [7, 8, 13] ?_
      repeat ((first | refine qR _ (fun w' e => KEEP.out w' (hE.drew.trans' e)) ?_ | refine qS ?_); go_frame)
      refine qD fun K hK => ?_
      go_simp
      refine (refHigh_calls (m := 4) (by omega) (by omega) (by omega) (by omega) (by omega)).mono ?_
      rintro e w1 ⟨A1, n1, c1, rfl, b1, e1⟩
      obtain rfl : n1 = 4 := by rw [← b1.len, List.length_reverse, lowL_len]
      refine hK.out _ _ (e1.mono hE.drew.size) ?_
      clear hK K
      try go_frame
      have hE1 := hE.drew.trans e1
      repeat ((first | refine qR _ (fun w' e => KEEP.out w' (hE1.trans' e)) ?_ | refine qS ?_); go_frame)
      refine qD fun K hK => ?_
      refine wp_append_bs rfl rfl rfl (ho.drew.ext e1) b1 (by omega) hE1.size ?_
      intro D' cc' w2 ho2 hg2 hbl
      refine hK.out _ _ hbl ?_
      clear hK K
      try go_frame
      repeat ((first | refine qR _ (fun w' e => KEEP.out w' ((hE1.trans' hbl).trans' e)) ?_ | refine qS ?_); go_frame)
      refine qD fun K hK => ?_
      refine wp_append_bs rfl rfl rfl ho2 (g2.ext (hE1.trans' hbl)) (by omega) (hE1.trans' hbl).size ?_
      intro D3 cc3 w3 ho3 hg3 hbl3
      refine hK.out _ _ hbl3 ?_
      clear hK K
      try go_frame
      repeat ((first | refine qR _ (fun w' e => KEEP.out w' (((hE1.trans' hbl).trans' hbl3).trans' e)) ?_ | refine qS ?_); go_frame)
      refine seq_done ?_
      go_wp2
      go_roundw
      case rel => exact ⟨j + 1, cc3, D3, by omega, by go_num, by rw [hs.out], by rw [hs.out, hjn.out]; exact ho3, (hE1.trans' hbl).trans' hbl3⟩
      case measure => simp [intOf]; omega
    · obtain rfl : j = n := by omega
      go_wp2
      go_ret
      exact ⟨_, _, _, rfl, by have := ho.bs; rwa [List.take_of_length_le (by rw [h.len]; omega)] at this, hE⟩
end Go.Proofs.YtmnohmhhmaeljaaDoor
end

section
/-
  The document's Make (layer 14).
-/
namespace Go.Proofs.YtmnohmhhmaeljaaDoor
open Go.ChangeShapes Go.WideShapes Go.ChangeAt Go.RowKit Go.Deep

set_option maxRecDepth 100000 in
set_option maxHeartbeats 1000000 in
theorem make14_calls {A : Option Addr} {n c : Nat} {l : List (List UInt8)} {ks : List UInt8} {w : World} (hk : ks.length = 32) (h : Rw w A n c l) (hm : (joinL l).length ≤ 1000000) :
    Calls Tryd.prog 64 #[.agg (cellsOf ks).toArray, .slice A n c] w fun e w' => e = .returned (.agg (cellsOf (macL ks (joinL l))).toArray) ∧ Ext w w' := by
  have JOIN : Hid (∀ (W : World), Ext w W → Calls Tryd.prog 50 #[.slice A n c] W (RetBs (joinL l) W)) := fun W e => refJoin_calls (h.ext e) (by omega)
  have TAG : Hid (∀ (W : World) (A' : Option Addr) (m d : Nat), Bs W A' m d (joinL l) → Calls Tryd.prog 99 #[.agg (cellsOf ks).toArray, .slice A' m d] W fun e w' => e = .returned (.agg (cellsOf (macL ks (joinL l))).toArray) ∧ Ext W w') := fun W A' m d b => refTag_calls hk b (by rw [← b.len]; exact hm)
  clear h hm
  have ML := macL_len ks (joinL l)
  generalize macL ks (joinL l) = D at *
  have DS : (cellsOf D).toArray.size = 32 := by simp [cellsOf_len, ML]
  have KS : (cellsOf ks).toArray.size = 32 := by simp [cellsOf_len, hk]
  have D1 := cellsOf_one D
  have hal := key_alloc
  have hz0 := zeros32_size
  generalize zeros32 = Z at *
  have B0 : Hid (∀ w', Ext ((w.alloc (Obj.cells (cellsOf ks).toArray 24)).alloc (Obj.cells Z 24)) w' → Ky w' w.heap.size ks ∧ w'.heap[w.heap.size + 1]? = some (.cells Z 24 (0, 0)) ∧ Ext w w') := fun w' e => ⟨⟨(e.block _ (by rw [size_alloc, size_alloc]; omega)).trans (heap_alloc1 _ _ _), hk⟩, (e.block _ (by rw [size_alloc, size_alloc]; omega)).trans (heap_alloc2 _ _ _), (((Ext.refl w).alloc _).alloc _).trans e⟩
  go_enter Tryd.func64, Tryd.ntmps64
  go_upto_region 1 with fail
  refine wp_gen (fun W => ∀ w', Ext W w' → Ky w' w.heap.size ks ∧ w'.heap[w.heap.size + 1]? = some (.cells Z 24 (0, 0)) ∧ Ext w w') B0.out ?_
  clear B0
  rintro w0 b0
  have B0 := Lib.hid b0
  clear b0
  refine qgZE 4 [0, 1, 2, 3, 4] [2, 3, 4] ?_
  refine qzV rfl (fun w' => w'.heap[w.heap.size]? = some (.cells (cellsOf ks).toArray 24 (0, 0))) (fun w' e => (B0.out w' ((Ext.refl _).drew.trans e)).1.1) (.agg (cellsOf ks).toArray) (fun w' hF => exec_load_row rfl rfl hF rfl rfl (by rw [KS]; rfl)) ?_
  go_frame
  repeat (refine qzR0 ?_; go_frame)
  refine qzD fun K hK => ?_
  go_simp
  refine (JOIN.out _ (B0.out _ (Ext.refl _).drew).2.2).mono ?_
  rintro e w1 ⟨A1, n1, c1, rfl, b1, e1⟩
  refine hK.out _ _ (.inr e1) ?_
  clear hK K
  (try go_frame)
  refine qzD fun K hK => ?_
  go_simp
  refine (TAG.out _ _ _ _ b1).mono ?_
  rintro e w2 ⟨rfl, e2⟩
  refine hK.out _ _ (.inr e2) ?_
  clear hK K
  (try go_frame)
  have x2 : Ext w0 w2 := (Ext.refl w0).drew.trans (e1.trans e2)
  have r2 := Lib.hid (B0.out _ x2).2.1
  have E2 := Lib.hid (B0.out _ x2).2.2
  clear B0 JOIN TAG e1 e2 x2 b1
  refine qzD fun K hK => ?_
  refine wp_store_row _ _ _ rfl (w.heap.size + 1) (cellsOf D).toArray rfl rfl 24 Z r2.out (by rw [DS]; rfl) (by rw [DS]; exact hz0) D1 ?_
  refine hK.out _ _ (.inl rfl) ?_
  clear hK K
  (try go_frame)
  refine seqZ_done ?_
  go_wp2_with fail
  (try simp only [Exit.inBlock, Exit.then])
  refine bodyPost_ret (results_cell_row rfl _ _ (w.heap.size + 1) 24 (cellsOf D).toArray (0, 0) _ rfl (setRow_heap _ _ _ _ _ _ r2.out) rfl rfl (by rw [DS]; rfl)) rfl ?_
  exact ⟨rfl, below_setRow E2.out (Nat.le_succ _) _⟩
end Go.Proofs.YtmnohmhhmaeljaaDoor
end
