import Derived.Test.YtadnmiedmcckkaaDoorRefMac
import Derived.Test.YtadnmiedmcckkaaDoorPkO
import Derived.Test.YtadnmiedmcckkaaDoorPkJ
import Derived.Test.YtadnmiedmcckkaaDoorSrcSt
section
/-
  The document's Sum.
-/
namespace Go.Proofs.YtadnmiedmcckkaaDoor
open Go.ChangeShapes Go.WideShapes Go.ChangeAt Go.RowKit Go.Deep

set_option maxRecDepth 100000 in
set_option maxHeartbeats 1000000 in
theorem refSum_calls {A : Option Addr} {m d : Nat} {bs : List UInt8} {w : World} (h : Bs w A m d bs) (hm : m ≤ 1000000) :
    Calls Tryd.prog 48 #[.slice A m d] w fun e w' => e = .returned (.agg (cellsOf (macL [] bs)).toArray) ∧ Ext w w' := by
  have hal : ∀ w, (zeroValue 23).run Tryd.prog w = .ok (.agg zeros32) w := fun _ => by kernel_rfl
  have HL : (cellsOf (macL [] bs)).toArray.size = 32 := by simp [cellsOf_len, macL_len]
  have H1 := cellsOf_one (macL [] bs)
  have CALL : Hid (Calls Tryd.prog 63 #[.slice none 0 0, .slice A m d] (w.alloc (Obj.cells zeros32 23)) fun e w' => e = .returned (.tuple #[.agg (cellsOf (macL [] bs)).toArray, .int .i64 0]) ∧ Ext (w.alloc (Obj.cells zeros32 23)) w') :=
    refMac_calls (Bs.nil _) (h.ext ((Ext.refl w).alloc _)) (by omega) hm
  have hz0 := zeros32_size
  generalize zeros32 = Z at *
  generalize (cellsOf (macL [] bs)).toArray = D at *
  go_enter Tryd.func48, Tryd.ntmps48
  go_wp2_with fail
  refine CALL.out.mono ?_
  rintro e w1 ⟨rfl, e1⟩
  have r0 := Lib.hid ((e1.block w.heap.size (by rw [size_alloc]; omega)).trans (heap_alloc_new w (Obj.cells Z 23)))
  have r1 : Hid (((w1.alloc (Obj.cells Z 23)).setRow w1.heap.size D).heap[w.heap.size]? = some (Obj.cells Z 23)) := (setRow_other _ _ _ _ (Nat.ne_of_lt (heap_lt r0.out))).trans (((Ext.refl w1).alloc _ |>.block _ (heap_lt r0.out)).trans r0.out)
  clear CALL
  go_wp2_with (first
    | refine wpList_store_row rfl 23 _ _ rfl w1.heap.size D rfl rfl 23 _ (by with_reducible exact heap_alloc_new _ _) (by rw [HL]; rfl) (by rw [HL]; exact hz0) H1 ?_
    | refine wpList_load_row rfl 23 _ rfl w1.heap.size rfl 23 D (0, 0) _ (by with_reducible exact setRow_heap _ _ _ _ _ _ (heap_alloc_new _ _)) rfl rfl (by rw [HL]; rfl) ?_
    | refine wpList_store_row rfl 23 _ _ rfl w.heap.size D rfl rfl 23 Z (by with_reducible exact r1.out) (by rw [HL]; rfl) (by rw [HL]; exact hz0) H1 ?_)
  (try simp only [Exit.inBlock, Exit.then])
  refine bodyPost_ret (results_cell_row rfl _ _ w.heap.size 23 D (0, 0) _ rfl (setRow_heap _ _ _ _ _ _ r1.out) rfl rfl (by rw [HL]; rfl)) rfl ?_
  exact ⟨rfl, below_setRow (below_setRow ((((Ext.refl w).alloc _).trans e1).alloc _) (Nat.le_of_lt (heap_lt r0.out)) _) (Nat.le_refl _) _⟩

end Go.Proofs.YtadnmiedmcckkaaDoor
end

section
/-
  The document's Tag.
-/
namespace Go.Proofs.YtadnmiedmcckkaaDoor
open Go.ChangeShapes Go.WideShapes Go.ChangeAt Go.RowKit Go.Deep

set_option maxRecDepth 100000 in
set_option maxHeartbeats 1000000 in
theorem refTag_calls {A : Option Addr} {m d : Nat} {ks bs : List UInt8} {w : World} (hk : ks.length = 32) (h : Bs w A m d bs) (hm : m ≤ 1000000) :
    Calls Tryd.prog 64 #[.agg (cellsOf ks).toArray, .slice A m d] w fun e w' => e = .returned (.agg (cellsOf (macL ks bs)).toArray) ∧ Ext w w' := by
  have hal : ∀ w, (zeroValue 23).run Tryd.prog w = .ok (.agg zeros32) w := fun _ => by kernel_rfl
  have HL : (cellsOf (macL ks bs)).toArray.size = 32 := by simp [cellsOf_len, macL_len]
  have H1 := cellsOf_one (macL ks bs)
  have KB : Hid (∀ o, Bs ((w.alloc (Obj.cells (cellsOf ks).toArray 23)).alloc o) (some ⟨w.heap.size, 0, none⟩) 32 32 ks) := fun o => (Ky.bs (Ky.boxed w hk)).ext ((Ext.refl _).alloc _)
  have CALL : Hid (∀ W, Ext w W → Bs W (some ⟨w.heap.size, 0, none⟩) 32 32 ks → Calls Tryd.prog 63 #[.slice (some ⟨w.heap.size, 0, none⟩) 32 32, .slice A m d] W fun e w' => e = .returned (.tuple #[.agg (cellsOf (macL ks bs)).toArray, .int .i64 0]) ∧ Ext W w') :=
    fun W e b => refMac_calls b (h.ext e) (by omega) hm
  have hz0 := zeros32_size
  generalize zeros32 = Z at *
  generalize (cellsOf (macL ks bs)).toArray = D at *
  generalize (cellsOf ks).toArray = KS at *
  go_enter Tryd.func64, Tryd.ntmps64
  go_wp2_with fail
  refine (CALL.out _ (((Ext.refl w).alloc _).alloc _) (KB.out _)).mono ?_
  rintro e w1 ⟨rfl, e1⟩
  have r0 := Lib.hid ((e1.block (w.heap.size + 1) (by rw [size_alloc, size_alloc]; omega)).trans (heap_alloc2 w (Obj.cells KS 23) (Obj.cells Z 23)))
  have r1 : Hid (((w1.alloc (Obj.cells Z 23)).setRow w1.heap.size D).heap[w.heap.size + 1]? = some (Obj.cells Z 23)) := (setRow_other _ _ _ _ (Nat.ne_of_lt (heap_lt r0.out))).trans (((Ext.refl w1).alloc _ |>.block _ (heap_lt r0.out)).trans r0.out)
  clear CALL KB
  go_wp2_with (first
    | refine wpList_store_row rfl 23 _ _ rfl w1.heap.size D rfl rfl 23 _ (by with_reducible exact heap_alloc_new _ _) (by rw [HL]; rfl) (by rw [HL]; exact hz0) H1 ?_
    | refine wpList_load_row rfl 23 _ rfl w1.heap.size rfl 23 D (0, 0) _ (by with_reducible exact setRow_heap _ _ _ _ _ _ (heap_alloc_new _ _)) rfl rfl (by rw [HL]; rfl) ?_
    | refine wpList_store_row rfl 23 _ _ rfl (w.heap.size + 1) D rfl rfl 23 Z (by with_reducible exact r1.out) (by rw [HL]; rfl) (by rw [HL]; exact hz0) H1 ?_)
  (try simp only [Exit.inBlock, Exit.then])
  refine bodyPost_ret (results_cell_row rfl _ _ (w.heap.size + 1) 23 D (0, 0) _ rfl (setRow_heap _ _ _ _ _ _ r1.out) rfl rfl (by rw [HL]; rfl)) rfl ?_
  exact ⟨rfl, below_setRow (below_setRow (((((Ext.refl w).alloc _).alloc _).trans e1).alloc _) (Nat.le_trans (Nat.le_succ _) (Nat.le_of_lt (heap_lt r0.out))) _) (Nat.le_succ _) _⟩
end Go.Proofs.YtadnmiedmcckkaaDoor
end

section
/-
  The document's Draw (layer 3).
-/
namespace Go.Proofs.YtadnmiedmcckkaaDoor
open Go.ChangeShapes Go.WideShapes Go.ChangeAt Go.RowKit Go.Deep

set_option maxRecDepth 100000 in
set_option maxHeartbeats 1000000 in
theorem refDraw_calls {A : Option Addr} {m d : Nat} {ks bs : List UInt8} {w : World} (hk : ks.length = 32) (h : Bs w A m d bs) (hm : m ≤ 1000000) :
    Calls Tryd.prog 49 #[.agg (cellsOf ks).toArray, .slice A m d] w fun e w' => e = .returned (.agg (cellsOf (macL ks bs)).toArray) ∧ Ext w w' := by
  have hal : ∀ w, (zeroValue 23).run Tryd.prog w = .ok (.agg zeros32) w := fun _ => by kernel_rfl
  have HL : (cellsOf (macL ks bs)).toArray.size = 32 := by simp [cellsOf_len, macL_len]
  have H1 := cellsOf_one (macL ks bs)
  have KS : (cellsOf ks).toArray.size = 32 := by simp [cellsOf_len, hk]
  have CALL : Hid (∀ W, Ext w W → Calls Tryd.prog 64 #[.agg (cellsOf ks).toArray, .slice A m d] W fun e w' => e = .returned (.agg (cellsOf (macL ks bs)).toArray) ∧ Ext W w') := fun W e => refTag_calls hk (h.ext e) hm
  have hz0 := zeros32_size
  have kk : Hid (Ky ((w.alloc (Obj.cells (cellsOf ks).toArray 23)).alloc (Obj.cells zeros32 23)) w.heap.size ks) := ⟨heap_alloc1 _ _ _, hk⟩
  generalize zeros32 = Z at *
  generalize (cellsOf (macL ks bs)).toArray = D at *
  clear h
  go_enter Tryd.func49, Tryd.ntmps49
  go_wp2_with (refine wpList_load_row rfl 23 _ rfl w.heap.size rfl 23 (cellsOf ks).toArray (0, 0) _ kk.out.1 rfl rfl (by rw [KS]; rfl) ?_; simp only [Act.put, List.setIfInBounds_toArray, List.set_cons_zero, List.set_cons_succ])
  refine (CALL.out _ (((Ext.refl w).alloc _).alloc _)).mono ?_
  rintro e w1 ⟨rfl, e1⟩
  have r0 := Lib.hid ((e1.block (w.heap.size + 1) (by rw [size_alloc, size_alloc]; omega)).trans (heap_alloc2 w (Obj.cells (cellsOf ks).toArray 23) (Obj.cells Z 23)))
  have E1 : Hid (Ext w w1) := (((Ext.refl w).alloc _).alloc _).trans e1
  clear CALL kk e1
  go_wp2_with (refine wpList_store_row rfl 23 _ _ rfl (w.heap.size + 1) D rfl rfl 23 Z r0.out (by rw [HL]; rfl) (by rw [HL]; exact hz0) H1 ?_)
  (try simp only [Exit.inBlock, Exit.then])
  refine bodyPost_ret (results_cell_row rfl _ _ (w.heap.size + 1) 23 D (0, 0) _ rfl (setRow_heap _ _ _ _ _ _ r0.out) rfl rfl (by rw [HL]; rfl)) rfl ?_
  exact ⟨rfl, below_setRow E1.out (Nat.le_succ _) _⟩
end Go.Proofs.YtadnmiedmcckkaaDoor
end

section
/-
  A literal of one byte. No conditions.
-/
namespace Go.Proofs.YtadnmiedmcckkaaDoor
open Go.ChangeShapes Go.WideShapes Go.ChangeAt Go.RowKit Go.Deep

theorem Bs.lit8 (w : World) (t : TypeId) (xs : List UInt8) (cs : Array Value) (hcs : cs = (xs.map fun x => Value.int .u8 (x.toNat : Int)).toArray) (n : Nat) (hn : xs.length = n) (hm : n ≤ 1000000) :
    Bs (w.alloc (.cells cs t)) (some ⟨w.heap.size, 0, none⟩) n n xs := by
  subst hcs
  have hr := World.rowIs_alloc w (xs.map fun x => Value.int .u8 (x.toNat : Int)).toArray t (fun i => .int .u8 (bt xs i : Int)) (fun i hi => by
    have hi' : i < xs.length := by simpa using hi
    simp [bt, List.getD, hi'])
  refine ⟨hn, Nat.le_refl _, by unfold maxLen; omega, fun _ => ⟨w.heap.size, 0, rfl, by simp, fun j hj => ?_⟩⟩
  rw [Nat.zero_add]
  exact hr.cell (by simp; omega)
theorem Bs.one8 (w : World) (t : TypeId) (x : UInt8) (v : Int) (hv : v = (x.toNat : Int)) : Bs (w.alloc (.cells #[.int .u8 v] t)) (some ⟨w.heap.size, 0, none⟩) 1 1 [x] :=
  Bs.lit8 w t [x] _ (by rw [hv]; rfl) 1 rfl (by omega)
end Go.Proofs.YtadnmiedmcckkaaDoor
end

section
/-
  The document's High.
-/
namespace Go.Proofs.YtadnmiedmcckkaaDoor
open Go.ChangeShapes Go.WideShapes Go.ChangeAt Go.RowKit Go.Deep

theorem lowL_snoc (n k : Nat) : lowL n (k + 1) = lowL n k ++ [UInt8.ofNat (n / 256 ^ k)] := by
  unfold lowL
  rw [List.range_succ, List.map_append]
  rfl
theorem lowAt_u8 (n k : Nat) : (lowAt n k : Int) % 256 = ((UInt8.ofNat (n / 256 ^ k)).toNat : Int) := by
  rw [lowAt_byte, UInt8.toNat_ofNat']

theorem Own.one8 (w : World) (B : Nat) (hB : B ≤ w.heap.size) (x : UInt8) (v : Int) (hv : v = (x.toNat : Int)) : Own B (w.alloc (.cells #[.int .u8 v] 5)) (some ⟨w.heap.size, 0, none⟩) 1 1 [x] := by
  subst hv
  exact World.ownsRow_lit (e := 5) (size := 1) w #[.int .u8 (x.toNat : Int)] 1 hB (by unfold maxLen; omega) rfl

set_option maxHeartbeats 1000000 in
theorem refHigh_calls {n m : Nat} {many : Int} {w : World} (hn : n < 18446744073709551616) (h1 : 0 ≤ many) (h2 : many ≤ 9223372036854775807) (hm8 : m ≤ 8) (hM : (if (8 : Int) < many then 8 else many) = (m : Int)) :
    Calls Tryd.prog 50 #[.int .u64 (n : Int), .int .i64 many] w (RetBs (lowL n m).reverse w) := by
  have hz : lowAt n 0 = n := by simp [lowAt]
  have hM' : m = many ∨ (m = 8 ∧ 8 < many) := by
    by_cases q : (8 : Int) < many
    · rw [if_pos q] at hM; right; omega
    · rw [if_neg q] at hM; left; omega
  clear hM
  go_enter Tryd.func50, Tryd.ntmps50
  go_wp2
  go_loopw [0, 5, 6] (fun x v i wr => ∃ (k cc : Nat) (D : Option Addr), k ≤ m ∧ i = .int .i64 k ∧ x = .int .u64 (lowAt n k : Int) ∧ v = .slice D k cc ∧ Bs wr D k cc (lowL n k).reverse ∧ Ext w wr) (fun _ _ i _ => m - (intOf i).toNat)
  case atStart => exact ⟨0, 0, none, Nat.zero_le _, rfl, by rw [hz], rfl, Bs.nil _, Ext.refl _⟩
  case round =>
    obtain ⟨k, cc, D, hk, rfl, rfl, rfl, ho, hE⟩ := hrel
    clear hz
    by_cases hlt : k < m
    · have t1 : (k : Int) < 8 := by omega
      have t2 : (k : Int) < many := by omega
      have hle := Nat.lt_of_le_of_lt (lowAt_le n k) hn
      have hsz := hE.size
      have hv := Lib.hid (lowAt_u8 n k)
      clear hM'
      go_wp2_with (at_builtin; refine wpList_append_bs rfl (B := w.heap.size) rfl rfl rfl (Own.one8 wr w.heap.size hsz (UInt8.ofNat (n / 256 ^ k)) _ hv.out) (ho.ext ((Ext.refl _).alloc _)) (by omega) (by simp; omega) ?_; intro D' cc' w2 ho2 hg2 hbl)
      go_roundw
      case rel => exact ⟨k + 1, cc', D', by omega, by go_num, congrArg (Value.int .u64) (lowAt_int n k), by rw [Nat.add_comm], by rw [lowL_snoc, List.reverse_append, Nat.add_comm k 1]; exact ho2.bs, (hE.alloc _).trans' hbl⟩
      case measure => simp [intOf]; omega
    · obtain rfl : k = m := by omega
      rcases hM' with hM' | ⟨rfl, hM'⟩
      · subst hM'
        go_wp2
        go_ret
        exact ⟨_, _, _, rfl, ho, hE⟩
      · go_wp2
        go_ret
        exact ⟨_, _, _, rfl, ho, hE⟩
end Go.Proofs.YtadnmiedmcckkaaDoor
end

section
/-
  palfreyref08.Key.
-/
namespace Go.Proofs.YtadnmiedmcckkaaDoor
open Go.ChangeShapes Go.WideShapes Go.ChangeAt Go.RowKit Go.Deep
set_option maxRecDepth 100000

set_option maxHeartbeats 2000000 in
theorem rkey8_calls {w : World} {A : Option Addr} {n c k : Nat} {xs : List UInt8} (h : Bs w A n c xs) (hn : n ≤ 1000000) (hk : k < 1000000) :
    Calls Tryd.prog 26 #[.slice A n c, .int .i64 (k : Int)] w fun e w' => e = .returned (.agg (cellsOf (srcK xs k)).toArray) ∧ Ext w w' := by
  have SUM : Hid (∀ W, Ext w W → Calls Tryd.prog 48 #[.slice A n c] W fun e w' => e = .returned (.agg (cellsOf (macL [] xs)).toArray) ∧ Ext W w') := fun W e => refSum_calls (h.ext e) hn
  have HI : Hid (∀ W, Calls Tryd.prog 50 #[.int .u64 (k : Int), .int .i64 8] W (RetBs (lowL k 8).reverse W)) := fun W => refHigh_calls (by omega) (by omega) (by omega) (Nat.le_refl _) (by decide)
  have DR : Hid (∀ (W : World) (A : Option Addr) (m d : Nat), Bs W A m d (lowL k 8).reverse → Calls Tryd.prog 49 #[.agg (cellsOf (macL [] xs)).toArray, .slice A m d] W fun e w' => e = .returned (.agg (cellsOf (srcK xs k)).toArray) ∧ Ext W w') := fun W A m d hb => refDraw_calls (macL_len _ _) hb (by have := hb.len; rw [List.length_reverse, lowL_len] at this; omega)
  have L_dk := srcK_len xs k
  generalize srcK xs k = dk at *
  generalize macL [] xs = sk at *
  generalize hhs : (lowL k 8).reverse = hs at *
  clear hhs h hn
  have S_dk : (cellsOf dk).toArray.size = 32 := by simp [cellsOf_len, L_dk]
  have O_dk := cellsOf_one dk
  have hal : ∀ w, (zeroValue 23).run Tryd.prog w = .ok (.agg (cellsOf (List.replicate 32 0)).toArray) w := fun w => by rw [zeros32_cells]; exact key_alloc w
  have L_zk : (List.replicate 32 (0 : UInt8)).length = 32 := rfl
  generalize List.replicate 32 (0 : UInt8) = zk at *
  have S_zk : (cellsOf zk).toArray.size = 32 := by simp [cellsOf_len, L_zk]
  have cv : IntKind.u64.wrap (k : Int) = (k : Int) := by simp [IntKind.wrap, IntKind.bits, IntKind.signed]; omega
  have a0 : Hid (Ky (w.alloc (Obj.cells (cellsOf zk).toArray 23)) w.heap.size zk) := ⟨heap_alloc_new _ _, L_zk⟩
  go_enter Tryd.func26, Tryd.ntmps26
  go_wp2_with fail
  refine (SUM.out _ ((Ext.refl w).alloc _)).mono ?_
  rintro e w1 ⟨rfl, e1⟩
  go_wp2_with fail
  refine (HI.out _).mono ?_
  rintro e w2 ⟨B, m, d, rfl, hb, e2⟩
  go_wp2_with fail
  refine (DR.out _ _ _ _ hb).mono ?_
  rintro e w3 ⟨rfl, e3⟩
  have EX : Hid (Ext (w.alloc (Obj.cells (cellsOf zk).toArray 23)) w3) := (e1.trans e2).trans e3
  have kr := Lib.hid (a0.out.ext EX.out)
  clear e1 e2 e3 hb SUM HI DR a0
  go_wp2_with (refine wpList_store_row rfl 23 _ _ rfl w.heap.size (cellsOf dk).toArray rfl rfl 23 _ kr.out.1 (by rw [S_dk]; rfl) (by rw [S_dk, S_zk]) O_dk ?_; simp only [Act.put])
  (try simp only [Exit.inBlock, Exit.then])
  refine bodyPost_ret (results_cell_row rfl _ _ w.heap.size 23 (cellsOf dk).toArray (0, 0) _ rfl (setRow_heap _ _ _ _ _ _ kr.out.1) rfl rfl (by rw [S_dk]; rfl)) rfl ?_
  exact ⟨rfl, below_setRow (((Ext.refl w).alloc _).trans EX.out) (Nat.le_refl _) _⟩
end Go.Proofs.YtadnmiedmcckkaaDoor
end
