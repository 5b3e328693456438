import Derived.Test.YthdjojindijmnaaDoorRefSpr
import Derived.Test.YthdjojindijmnaaDoorPkI
import Derived.Test.YthdjojindijmnaaDoorPkL
section
/-
  The document's Key (layer 3).
-/
namespace Go.Proofs.YthdjojindijmnaaDoor
open Go.ChangeShapes Go.WideShapes Go.ChangeAt Go.RowKit Go.Deep

set_option maxRecDepth 100000 in
set_option maxHeartbeats 2000000 in
theorem refKey_calls {ks ps : List UInt8} {w : World} (hk : ks.length = 32) (h1 : ps.length ≤ 900000) :
    Calls Tryd.prog 46 #[.agg (cellsOf ks).toArray, .string (strL ps)] w fun e w' => e = .returned (.agg (cellsOf (keyL ks ps)).toArray) ∧ Ext w w' := by
  have SPR : Hid (∀ W : World, Calls Tryd.prog 58 #[.agg (cellsOf ks).toArray, .string (strL ps), .int .i64 32] W (RetBsE (keyL ks ps) 0 W)) := fun W => by
    have := refSpread_calls (m := 32) (w := W) hk h1 (by omega)
    rw [spreadL_32] at this
    exact this
  have KL := keyL_len ks ps
  generalize keyL ks ps = RM at *
  have KS : (cellsOf ks).toArray.size = 32 := by simp [cellsOf_len, hk]
  have hal := key_alloc
  have k0 : Hid (Ky ((w.alloc (Obj.cells (cellsOf ks).toArray 23)).alloc (Obj.cells zeros32 23)) w.heap.size ks) := ⟨heap_alloc1 _ _ _, hk⟩
  have kr : Hid (Ky ((w.alloc (Obj.cells (cellsOf ks).toArray 23)).alloc (Obj.cells zeros32 23)) (w.heap.size + 1) (List.replicate 32 0)) := ⟨by rw [zeros32_cells]; exact heap_alloc2 _ _ _, rfl⟩
  have hz32 := Lib.hid zeros32_cells
  have zl : (List.replicate 32 (0 : UInt8)).length = 32 := rfl
  generalize zeros32 = Z at *
  generalize List.replicate 32 (0 : UInt8) = zs at *
  have ZS : (cellsOf zs).toArray.size = 32 := by simp [cellsOf_len, zl]
  generalize strL ps = sA at *
  go_enter Tryd.func46, Tryd.ntmps46
  go_wp2_with (refine wpList_load_row rfl 23 _ rfl w.heap.size rfl 23 (cellsOf ks).toArray (0, 0) _ k0.out.1 rfl rfl (by rw [KS]; rfl) ?_; simp only [Act.put, List.setIfInBounds_toArray, List.set_cons_zero, List.set_cons_succ])
  refine (SPR.out _).mono ?_
  rintro e w1 ⟨A1, n1, c1, rfl, b1, e1⟩
  obtain rfl : n1 = 32 := by rw [← b1.len, KL]
  have E1 : Hid (Ext w w1) := (((Ext.refl w).alloc _).alloc _).trans e1
  have kr1 := Lib.hid (kr.out.ext e1)
  have l1 := b1.le
  obtain ⟨b, off, rfl, hb, hbc⟩ := b1.pos (by omega)
  have CV := Lib.hid (fun w' (e : Ext w1 w') j (hj : j < 32) => (e.cell (p := ⟨b, off + j, none⟩) hb).trans (hbc j hj))
  have kn : Hid (Ky (w1.alloc (Obj.cells Z 23)) w1.heap.size zs) := by
    have := Ky.boxed w1 zl
    rw [hz32.out] at this
    exact this
  clear SPR k0 kr hbc b1 e1
  go_wp2_with fail
  go_loopw [8] (fun v wr => ∃ (k : Nat) (ys : List UInt8), k ≤ 32 ∧ v = .int .i64 (k : Int) ∧ ys.length = 32 ∧ (∀ j, j < k → bt ys j = bt RM j) ∧ Ext w1 wr ∧ Ky wr w1.heap.size ys) (fun v _ => 32 - (intOf v).toNat)
  case atStart => exact ⟨0, zs, Nat.zero_le _, rfl, zl, fun j hj => absurd hj (by omega), (Ext.refl _).alloc _, kn.out⟩
  case round =>
    obtain ⟨k, ys, hk2, rfl, yl, hv, he, ky⟩ := hrel
    clear kn
    by_cases hlt : k < 32
    · have cv := CV.out _ he k hlt
      have g1 := ky.cell hlt
      have g2 := ky.frozen k
      have ik : (k : Int) < 32 := by omega
      replace hv := Lib.hid hv
      replace he := Lib.hid he
      replace ky := Lib.hid ky
      go_wp2_with fail
      refine ⟨⟨k + 1, ys.set k (UInt8.ofNat (bt RM k)), by omega, by go_num, by rw [List.length_set]; exact yl, fun j hj => ?_, he.out.setCell (Nat.le_refl _) _, ky.out.setB hlt (bt_lt _ _)⟩, by simp [intOf]; omega⟩
      rw [bt_set (by omega) (bt_lt _ _)]
      by_cases e : j = k
      · rw [if_pos e, e]
      · rw [if_neg e]; exact hv.out j (by omega)
    · obtain rfl : k = 32 := by omega
      have hy : ys = RM := list_bt (by rw [yl, KL]) fun j hj => hv j (by omega)
      subst hy
      have KK := Lib.hid (kr1.out.ext he)
      have EE : Hid (Ext w wr) := E1.out.trans he
      have RS : (cellsOf ys).toArray.size = 32 := by simp [cellsOf_len, yl]
      have R1 := cellsOf_one ys
      replace ky := Lib.hid ky
      clear hv he CV E1 kr1
      go_wp2_with (first
        | (refine wpList_load_row rfl 23 _ rfl w1.heap.size rfl 23 (cellsOf ys).toArray (0, 0) _ ky.out.1 rfl rfl (by rw [RS]; rfl) ?_; simp only [Act.put, List.setIfInBounds_toArray, List.set_cons_zero, List.set_cons_succ])
        | refine wpList_store_row rfl 23 _ _ rfl (w.heap.size + 1) (cellsOf ys).toArray rfl rfl 23 _ KK.out.1 (by rw [RS]; rfl) (by rw [RS, ZS]) R1 ?_)
      (try simp only [Exit.inBlock, Exit.then])
      refine bodyPost_ret (results_cell_row rfl _ _ (w.heap.size + 1) 23 (cellsOf ys).toArray (0, 0) _ rfl (setRow_heap _ _ _ _ _ _ KK.out.1) rfl rfl (by rw [RS]; rfl)) rfl ?_
      exact ⟨rfl, below_setRow EE.out (Nat.le_succ _) _⟩
end Go.Proofs.YthdjojindijmnaaDoor
end

section
/-
  The document's High.
-/
namespace Go.Proofs.YthdjojindijmnaaDoor
open Go.ChangeShapes Go.WideShapes Go.ChangeAt Go.RowKit Go.Deep

theorem Bs.lit8 (w : World) (t : TypeId) (xs : List UInt8) (cs : Array Value) (hcs : cs = (xs.map fun x => Value.int .u8 (x.toNat : Int)).toArray) (n : Nat) (hn : xs.length = n) (hm : n ≤ 1000000) :
    Bs (w.alloc (.cells cs t)) (some ⟨w.heap.size, 0, none⟩) n n xs := by
  subst hcs
  have hr := World.rowIs_alloc w (xs.map fun x => Value.int .u8 (x.toNat : Int)).toArray t (fun i => .int .u8 (bt xs i : Int)) (fun i hi => by
    have hi' : i < xs.length := by simpa using hi
    simp [bt, List.getD, hi'])
  refine ⟨hn, Nat.le_refl _, by unfold maxLen; omega, fun _ => ⟨w.heap.size, 0, rfl, by simp, fun j hj => ?_⟩⟩
  rw [Nat.zero_add]
  exact hr.cell (by simp; omega)
theorem Bs.one8 (w : World) (t : TypeId) (x : UInt8) (v : Int) (hv : v = (x.toNat : Int)) : Bs (w.alloc (.cells #[.int .u8 v] t)) (some ⟨w.heap.size, 0, none⟩) 1 1 [x] :=
  Bs.lit8 w t [x] _ (by rw [hv]; rfl) 1 rfl (by omega)

theorem lowL_snoc (n k : Nat) : lowL n (k + 1) = lowL n k ++ [UInt8.ofNat (n / 256 ^ k)] := by
  unfold lowL
  rw [List.range_succ, List.map_append]
  rfl
theorem lowAt_u8 (n k : Nat) : (lowAt n k : Int) % 256 = ((UInt8.ofNat (n / 256 ^ k)).toNat : Int) := by
  rw [lowAt_byte, UInt8.toNat_ofNat']

theorem Own.one8 (w : World) (B : Nat) (hB : B ≤ w.heap.size) (x : UInt8) (v : Int) (hv : v = (x.toNat : Int)) : Own B (w.alloc (.cells #[.int .u8 v] 5)) (some ⟨w.heap.size, 0, none⟩) 1 1 [x] := by
  subst hv
  exact World.ownsRow_lit (e := 5) (size := 1) w #[.int .u8 (x.toNat : Int)] 1 hB (by unfold maxLen; omega) rfl

set_option maxHeartbeats 1000000 in
theorem refHigh_calls {n m : Nat} {many : Int} {w : World} (hn : n < 18446744073709551616) (h1 : 0 ≤ many) (h2 : many ≤ 9223372036854775807) (hm8 : m ≤ 8) (hM : (if (8 : Int) < many then 8 else many) = (m : Int)) :
    Calls Tryd.prog 42 #[.int .u64 (n : Int), .int .i64 many] w (RetBs (lowL n m).reverse w) := by
  have hz : lowAt n 0 = n := by simp [lowAt]
  have hM' : m = many ∨ (m = 8 ∧ 8 < many) := by
    by_cases q : (8 : Int) < many
    · rw [if_pos q] at hM; right; omega
    · rw [if_neg q] at hM; left; omega
  clear hM
  go_enter Tryd.func42, Tryd.ntmps42
  go_wp2
  go_loopw [0, 5, 6] (fun x v i wr => ∃ (k cc : Nat) (D : Option Addr), k ≤ m ∧ i = .int .i64 k ∧ x = .int .u64 (lowAt n k : Int) ∧ v = .slice D k cc ∧ Bs wr D k cc (lowL n k).reverse ∧ Ext w wr) (fun _ _ i _ => m - (intOf i).toNat)
  case atStart => exact ⟨0, 0, none, Nat.zero_le _, rfl, by rw [hz], rfl, Bs.nil _, Ext.refl _⟩
  case round =>
    obtain ⟨k, cc, D, hk, rfl, rfl, rfl, ho, hE⟩ := hrel
    clear hz
    by_cases hlt : k < m
    · have t1 : (k : Int) < 8 := by omega
      have t2 : (k : Int) < many := by omega
      have hle := Nat.lt_of_le_of_lt (lowAt_le n k) hn
      have hsz := hE.size
      have hv := Lib.hid (lowAt_u8 n k)
      clear hM'
      go_wp2_with (at_builtin; refine wpList_append_bs rfl (B := w.heap.size) rfl rfl rfl (Own.one8 wr w.heap.size hsz (UInt8.ofNat (n / 256 ^ k)) _ hv.out) (ho.ext ((Ext.refl _).alloc _)) (by omega) (by simp; omega) ?_; intro D' cc' w2 ho2 hg2 hbl)
      go_roundw
      case rel => exact ⟨k + 1, cc', D', by omega, by go_num, congrArg (Value.int .u64) (lowAt_int n k), by rw [Nat.add_comm], by rw [lowL_snoc, List.reverse_append, Nat.add_comm k 1]; exact ho2.bs, (hE.alloc _).trans' hbl⟩
      case measure => simp [intOf]; omega
    · obtain rfl : k = m := by omega
      rcases hM' with hM' | ⟨rfl, hM'⟩
      · subst hM'
        go_wp2
        go_ret
        exact ⟨_, _, _, rfl, ho, hE⟩
      · go_wp2
        go_ret
        exact ⟨_, _, _, rfl, ho, hE⟩
end Go.Proofs.YthdjojindijmnaaDoor
end

section
/-
  The document's Join.
-/
namespace Go.Proofs.YthdjojindijmnaaDoor
open Go.ChangeShapes Go.WideShapes Go.ChangeAt Go.RowKit Go.Deep

set_option maxHeartbeats 1000000 in
theorem refJoin_calls {A : Option Addr} {n c : Nat} {l : List (List UInt8)} {w : World} (h : Rw w A n c l) (hm : (joinL l).length ≤ 100000000) :
    Calls Tryd.prog 32 #[.slice A n c] w (RetBs (joinL l) w) := by
  have h1 := h.le
  have h2 := h.cap
  go_enter Tryd.func32, Tryd.ntmps32
  go_wp2
  go_loopw [3, 4] (fun v i wr => ∃ (j cc : Nat) (D : Option Addr), j ≤ n ∧ i = .int .i64 j ∧ v = .slice D (sizeAt l j) cc ∧ Own w.heap.size wr D (sizeAt l j) cc (joinL (l.take j)) ∧ Ext w wr) (fun _ i _ => n - (intOf i).toNat)
  case atStart => exact ⟨0, _, _, Nat.zero_le _, rfl, rfl, Own.nil _ _, Ext.refl w⟩
  case round =>
    obtain ⟨j, cc, D, hj, rfl, rfl, ho, hE⟩ := hrel
    by_cases hlj : j < n
    · obtain ⟨b, off, rfl, hb, hc⟩ := h.pos (by omega)
      obtain ⟨A', n', c', g1', g2⟩ := hc j (by omega)
      have t3 := g2.le
      have t4 := g2.cap
      have hszj := hE.size
      have hb1 : sizeAt l (j + 1) ≤ 100000000 := Nat.le_trans (joinL_le l (j + 1)) hm
      have hs : Hid (sizeAt l (j + 1) = sizeAt l j + 4 + n') := by
        unfold Hid sizeAt
        rw [joinL_len_snoc (by rw [h.len]; omega), g2.len]
        omega
      have hb2 : n' + 4 + sizeAt l j ≤ 100000000 := by have := hs.out; omega
      have hjn : Hid (joinL (l.take (j + 1)) = joinL (l.take j) ++ (lowL n' 4).reverse ++ l.getD j []) := by
        unfold Hid
        rw [joinL_snoc (by rw [h.len]; omega), row4, g2.len, List.append_assoc]
      have q1 : (0 : Int) ≤ (j : Int) := by omega
      have q2 : (j : Int) < (n : Int) := by omega
      have q3 : (n' : Int).toNat = n' := by omega
      have q4 : IntKind.u64.wrap (n' : Int) = (n' : Int) := IntWalk.u64_in _ (by omega)
      have KEEP : Hid (∀ w', Ext w w' → w'.cell? ⟨b, off + j, none⟩ = some (.slice A' n' c')) := fun w' e => (e.cell hb).trans g1'
      clear hc g1'
      go_wp2
      refine wp_region_seq (R := Below w.heap.size) (Below.refl _) (fun _ _ _ => Below.trans) [0, 1, 2, 3, 4, 5, 6, 9, 10, 11, 12, 7, 8, 13, 14] [7, 8, 13] [(0, 12, 16), (0, 13, 2), (0, 14, 32), (6, 15, 24576), (8, 16, 32768), (16, 17, 65536), (32, 18, 131072), (64, 19, 262144), (129, 20, 528384), (0, 21, 2), (0, 22, 32), (1536, 23, 6291456), (2048, 24, 8388608), (4352, 25, 17825792), (16383, 4, 33554432)] (by kernel_rfl) (by kernel_rfl) (by kernel_rfl) rfl (by kernel_rfl) (by kernel_rfl) (fun _ _ d _ _ h => by cases d <;> exact h) ?_
      repeat (first | (refine seq_read _ (fun w' e => KEEP.out w' (hE.drew.trans' e)) _ (v := ?_) rfl rfl (by rfl) ?_ ?_; rotate_left; (· intro w' hF; go_simp; (try with_reducible rfl)); simp only [Act.put, List.setIfInBounds_toArray, List.set_cons_zero, List.set_cons_succ]) | (refine seq_skip _ rfl rfl (by rfl) ?_; simp only [Act.put, List.setIfInBounds_toArray, List.set_cons_zero, List.set_cons_succ]))
      refine seq_do _ rfl rfl (by rfl) (fun K hK => ?_)
      go_simp
      refine (refHigh_calls (m := 4) (by omega) (by omega) (by omega) (by omega) (by omega)).mono ?_
      rintro e w1 ⟨A1, n1, c1, rfl, b1, e1⟩
      obtain rfl : n1 = 4 := by rw [← b1.len, List.length_reverse, lowL_len]
      refine hK.out _ _ (e1.mono hE.drew.size) ?_
      clear hK K
      try simp only [Act.put, List.setIfInBounds_toArray, List.set_cons_zero, List.set_cons_succ]
      have hE1 := hE.drew.trans e1
      repeat (first | (refine seq_read _ (fun w' e => KEEP.out w' (hE1.trans' e)) _ (v := ?_) rfl rfl (by rfl) ?_ ?_; rotate_left; (· intro w' hF; go_simp; (try with_reducible rfl)); simp only [Act.put, List.setIfInBounds_toArray, List.set_cons_zero, List.set_cons_succ]) | (refine seq_skip _ rfl rfl (by rfl) ?_; simp only [Act.put, List.setIfInBounds_toArray, List.set_cons_zero, List.set_cons_succ]))
      refine seq_do _ rfl rfl (by rfl) (fun K hK => ?_)
      refine wp_append_bs rfl rfl rfl (ho.drew.ext e1) b1 (by omega) hE1.size ?_
      intro D' cc' w2 ho2 hg2 hbl
      refine hK.out _ _ hbl ?_
      clear hK K
      try simp only [Act.put, List.setIfInBounds_toArray, List.set_cons_zero, List.set_cons_succ]
      repeat (first | (refine seq_read _ (fun w' e => KEEP.out w' ((hE1.trans' hbl).trans' e)) _ (v := ?_) rfl rfl (by rfl) ?_ ?_; rotate_left; (· intro w' hF; go_simp; (try with_reducible rfl)); simp only [Act.put, List.setIfInBounds_toArray, List.set_cons_zero, List.set_cons_succ]) | (refine seq_skip _ rfl rfl (by rfl) ?_; simp only [Act.put, List.setIfInBounds_toArray, List.set_cons_zero, List.set_cons_succ]))
      refine seq_do _ rfl rfl (by rfl) (fun K hK => ?_)
      refine wp_append_bs rfl rfl rfl ho2 (g2.ext (hE1.trans' hbl)) (by omega) (hE1.trans' hbl).size ?_
      intro D3 cc3 w3 ho3 hg3 hbl3
      refine hK.out _ _ hbl3 ?_
      clear hK K
      try simp only [Act.put, List.setIfInBounds_toArray, List.set_cons_zero, List.set_cons_succ]
      repeat (first | (refine seq_read _ (fun w' e => KEEP.out w' (((hE1.trans' hbl).trans' hbl3).trans' e)) _ (v := ?_) rfl rfl (by rfl) ?_ ?_; rotate_left; (· intro w' hF; go_simp; (try with_reducible rfl)); simp only [Act.put, List.setIfInBounds_toArray, List.set_cons_zero, List.set_cons_succ]) | (refine seq_skip _ rfl rfl (by rfl) ?_; simp only [Act.put, List.setIfInBounds_toArray, List.set_cons_zero, List.set_cons_succ]))
      refine seq_done ?_
      go_wp2
      go_roundw
      case rel => exact ⟨j + 1, cc3, D3, by omega, by go_num, by rw [hs.out], by rw [hs.out, hjn.out]; exact ho3, (hE1.trans' hbl).trans' hbl3⟩
      case measure => simp [intOf]; omega
    · obtain rfl : j = n := by omega
      go_wp2
      go_ret
      exact ⟨_, _, _, rfl, by have := ho.bs; rwa [List.take_of_length_le (by rw [h.len]; omega)] at this, hE⟩
end Go.Proofs.YthdjojindijmnaaDoor
end
