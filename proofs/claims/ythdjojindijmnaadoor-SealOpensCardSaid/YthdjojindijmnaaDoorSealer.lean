import Derived.Test.YthdjojindijmnaaDoorPkJ
import Derived.Test.YthdjojindijmnaaDoorPkK
import Derived.Test.YthdjojindijmnaaDoorSeqZ
/-
  seal.sealerOf: a key with its two keys.
-/
namespace Go.Proofs.YthdjojindijmnaaDoor
open Go.ChangeShapes Go.WideShapes Go.ChangeAt Go.RowKit Go.Deep
set_option maxRecDepth 100000

def turnS : List UInt8 := [116, 117, 114, 110]
def tagS : List UInt8 := [116, 97, 103]
/-- The two keys and the key. -/
def slrL (ks : List UInt8) : List UInt8 := keyL ks turnS ++ keyL ks tagS ++ ks
theorem cellsOf_append (xs ys : List UInt8) : cellsOf (xs ++ ys) = cellsOf xs ++ cellsOf ys := by rw [cellsOf_map, cellsOf_map, cellsOf_map, List.map_append]
theorem slrL_len {ks : List UInt8} (hk : ks.length = 32) : (slrL ks).length = 96 := by unfold slrL; simp [keyL_len, hk]

def Z96 : Array Value := (cellsOf (List.replicate 96 0)).toArray
theorem Z96_size : Z96.size = 96 := by simp [Z96, cellsOf_len]
def Z64 : Array Value := (cellsOf (List.replicate 64 0)).toArray
theorem Z64_size : Z64.size = 64 := by simp [Z64, cellsOf_len]
theorem sealer_alloc (w : World) : (zeroValue 58).run Tryd.prog w = .ok (.agg Z96) w := by kernel_rfl
theorem two_built {K L : Array Value} (hK : K.size = 32) (hL : L.size = 32) : Tryd.prog.built 56 [(0, .agg K), (1, .agg L)] = some (K ++ L) := by
  have h : ∃ pl : Nat → Option (Nat × Nat), pl 0 = some (0, 32) ∧ pl 1 = some (32, 32) ∧ ∀ ps, Tryd.prog.built 56 ps = Instr.fill pl Z64 ps := ⟨(#[(0, 32), (32, 32)][·]?), rfl, rfl, fun ps => by kernel_rfl⟩
  obtain ⟨pl, h0, h1, h2⟩ := h
  rw [h2, fill_two pl h0 h1 hK hL Z64_size]
theorem sealer_built {K L : Array Value} (hK : K.size = 64) (hL : L.size = 32) : Tryd.prog.built 58 [(0, .agg K), (1, .agg L)] = some (K ++ L) := by
  have h : ∃ pl : Nat → Option (Nat × Nat), pl 0 = some (0, 64) ∧ pl 1 = some (64, 32) ∧ ∀ ps, Tryd.prog.built 58 ps = Instr.fill pl Z96 ps := ⟨(#[(0, 64), (64, 32)][·]?), rfl, rfl, fun ps => by kernel_rfl⟩
  obtain ⟨pl, h0, h1, h2⟩ := h
  rw [h2, fill_two pl h0 h1 hK hL Z96_size]

set_option maxHeartbeats 2000000 in
theorem sealerOf_calls {ks : List UInt8} {w : World} (hk : ks.length = 32) {tg : TypeId × Nat × Nat} (hG : Gl w tg) :
    Calls Tryd.prog 33 #[.agg (cellsOf ks).toArray] w fun e w' => e = .returned (.agg (cellsOf (slrL ks)).toArray) ∧ Ext w w' := by
  have KEYS : Hid (∀ (W : World) t, Ext w W → Calls Tryd.prog 43 #[.agg (cellsOf ks).toArray, .slice (some ⟨W.heap.size, 0, none⟩) 2 2] (W.alloc (.cells #[.string (strL turnS), .string (strL tagS)] t)) (RetKs [keyL ks turnS, keyL ks tagS] (W.alloc (.cells #[.string (strL turnS), .string (strL tagS)] t)))) := fun W t e =>
    keys_calls (ks := ks) (l := [turnS, tagS]) hk (str_lit rfl) (by omega) (fun j => by
      match j with
      | 0 => show turnS.length ≤ _; decide
      | 1 => show tagS.length ≤ _; decide
      | j + 2 => simp [List.getD]) (hG.kept (e.alloc _) hG.lt)
  have hA : Hid ((⟨#[116, 117, 114, 110]⟩ : ByteArray) = strL turnS) := rfl
  have hB : Hid ((⟨#[116, 97, 103]⟩ : ByteArray) = strL tagS) := rfl
  generalize strL turnS = sA at *
  generalize strL tagS = sB at *
  clear hG
  have SL := slrL_len hk
  have hS : Hid (slrL ks = keyL ks turnS ++ keyL ks tagS ++ ks) := rfl
  generalize slrL ks = S at *
  have K0 := keyL_len ks turnS
  have K1 := keyL_len ks tagS
  generalize keyL ks turnS = k0 at *
  generalize keyL ks tagS = k1 at *
  have KS : (cellsOf ks).toArray.size = 32 := by simp [cellsOf_len, hk]
  have SS : (cellsOf S).toArray.size = 96 := by simp [cellsOf_len, SL]
  have OS := cellsOf_one S
  have C0 : (cellsOf k0).length = 32 := by rw [cellsOf_len, K0]
  have C1 : (cellsOf k1).length = 32 := by rw [cellsOf_len, K1]
  have b1 : Hid (Tryd.prog.built 56 [(0, .agg (cellsOf k0).toArray), (1, .agg (cellsOf k1).toArray)] = some (cellsOf (k0 ++ k1)).toArray) := by
    rw [cellsOf_append, ← List.append_toArray]
    exact two_built C0 C1
  have C01 : (cellsOf (k0 ++ k1)).length = 64 := by rw [cellsOf_len, List.length_append, K0, K1]
  have b2 : Hid (Tryd.prog.built 58 [(0, .agg (cellsOf (k0 ++ k1)).toArray), (1, .agg (cellsOf ks).toArray)] = some (cellsOf S).toArray) := by
    unfold Hid
    rw [hS.out, cellsOf_append (k0 ++ k1), ← List.append_toArray]
    exact sealer_built C01 KS
  generalize k0 ++ k1 = k01 at *
  clear hS C01
  have hal := sealer_alloc
  have hz0 := Z96_size
  generalize Z96 = Z at *
  have B0 : Hid (∀ s, Ext ((w.alloc (Obj.cells (cellsOf ks).toArray 23)).alloc (Obj.cells Z 58)) s → Ky s w.heap.size ks ∧ s.heap[w.heap.size + 1]? = some (.cells Z 58 (0, 0)) ∧ Ext w s) := fun s e => ⟨⟨(e.block _ (by rw [size_alloc, size_alloc]; omega)).trans (heap_alloc1 _ _ _), hk⟩, (e.block _ (by rw [size_alloc, size_alloc]; omega)).trans (heap_alloc2 _ _ _), (((Ext.refl w).alloc _).alloc _).trans e⟩
  go_enter Tryd.func33, Tryd.ntmps33
  go_upto_region 1 with fail
  refine wp_gen (fun W => ∀ s, Ext W s → Ky s w.heap.size ks ∧ s.heap[w.heap.size + 1]? = some (.cells Z 58 (0, 0)) ∧ Ext w s) B0.out ?_
  clear B0
  rintro w0 B0
  replace B0 := Lib.hid B0
  have y0 := Lib.hid (B0.out _ (Ext.refl _)).1
  go_wp2_with (refine wpList_load_row rfl 23 _ rfl w.heap.size rfl 23 (cellsOf ks).toArray (0, 0) _ y0.out.1 rfl rfl (by rw [KS]; rfl) ?_; simp only [Act.put, List.setIfInBounds_toArray, List.set_cons_zero, List.set_cons_succ])
  rw [hA.out, hB.out]
  refine (KEYS.out _ _ (B0.out _ (Ext.refl _)).2.2).mono ?_
  rintro e w1 ⟨g, rfl, hg, kr, e1⟩
  have B1 : Hid (∀ s, Ext w1 s → Ky s w.heap.size ks ∧ s.heap[w.heap.size + 1]? = some (.cells Z 58 (0, 0)) ∧ Ext w s) := fun s e => B0.out s (((Ext.refl _).alloc _).trans (e1.trans e))
  clear B0 KEYS e1 hg y0
  have R0 : Hid (∀ w', Ext w1 w' → ∀ i v, (cellsOf k0)[i]? = some v → w'.cell? ⟨g, 0 + i, none⟩ = some v) := fun w' e => Kr.row (l := [k0, k1]) (j := 0) (kr.ext e) (by simp)
  have R1 : Hid (∀ w', Ext w1 w' → ∀ i v, (cellsOf k1)[i]? = some v → w'.cell? ⟨g, 32 + i, none⟩ = some v) := fun w' e => Kr.row (l := [k0, k1]) (j := 1) (kr.ext e) (by simp)
  clear kr
  go_wp2_with fail
  refine wp_region_seqZ (R := Ext) Ext.refl (fun _ _ _ => Ext.trans) 9 [0, 1, 2, 3, 4, 5, 6, 7, 8, 9] [9] [(0, 8, 16), (1, 9, 256), (2, 10, 512), (0, 11, 16), (8, 12, 2048), (16, 13, 4096), (36, 14, 9216), (0, 15, 4), (192, 16, 49152), (511, 0, 65544)] (by kernel_rfl) (by kernel_rfl) (by kernel_rfl) rfl (by kernel_rfl) (by kernel_rfl) (by kernel_rfl) (fun _ _ d _ _ h => by cases d <;> exact h) ?_
  repeat (refine seqZ_read (fun _ => True) (fun _ _ => trivial) _ (v := ?_) rfl rfl (by rfl) ?_ ?_; rotate_left; (· intro w' hF; go_simp; (try with_reducible rfl)); simp only [Act.put, List.setIfInBounds_toArray, List.set_cons_zero, List.set_cons_succ])
  refine seqZ_read (fun w' => ∀ j v, (cellsOf k0)[j]? = some v → w'.cell? ⟨g, 0 + j, none⟩ = some v) (fun w' e => R0.out w' ((Ext.refl _).drew.trans e)) _ (v := .agg (cellsOf k0).toArray) rfl rfl (by rfl) (fun w' hF => exec_load_mid rfl rfl hF rfl rfl (by rw [C0]; rfl)) ?_
  simp only [Act.put, List.setIfInBounds_toArray, List.set_cons_zero, List.set_cons_succ]
  repeat (refine seqZ_read (fun _ => True) (fun _ _ => trivial) _ (v := ?_) rfl rfl (by rfl) ?_ ?_; rotate_left; (· intro w' hF; go_simp; (try with_reducible rfl)); simp only [Act.put, List.setIfInBounds_toArray, List.set_cons_zero, List.set_cons_succ])
  refine seqZ_read (fun w' => ∀ j v, (cellsOf k1)[j]? = some v → w'.cell? ⟨g, 32 + j, none⟩ = some v) (fun w' e => R1.out w' ((Ext.refl _).drew.trans e)) _ (v := .agg (cellsOf k1).toArray) rfl rfl (by rfl) (fun w' hF => exec_load_mid rfl rfl hF rfl rfl (by rw [C1]; rfl)) ?_
  simp only [Act.put, List.setIfInBounds_toArray, List.set_cons_zero, List.set_cons_succ]
  refine seqZ_read (fun _ => True) (fun _ _ => trivial) _ (v := .agg (cellsOf k01).toArray) rfl rfl (by rfl) (fun w' _ => exec_build_as rfl (by simp only [List.map_toArray, List.map_cons, List.map_nil]; exact b1.out)) ?_
  simp only [Act.put, List.setIfInBounds_toArray, List.set_cons_zero, List.set_cons_succ]
  refine seqZ_read (fun w' => w'.heap[w.heap.size]? = some (.cells (cellsOf ks).toArray 23 (0, 0))) (fun w' e => (B1.out w' ((Ext.refl _).drew.trans e)).1.1) _ (v := .agg (cellsOf ks).toArray) rfl rfl (by rfl) (fun w' hF => exec_load_row rfl rfl hF rfl rfl (by rw [KS]; rfl)) ?_
  simp only [Act.put, List.setIfInBounds_toArray, List.set_cons_zero, List.set_cons_succ]
  refine seqZ_read (fun _ => True) (fun _ _ => trivial) _ (v := .agg (cellsOf S).toArray) rfl rfl (by rfl) (fun w' _ => exec_build_as rfl (by simp only [List.map_toArray, List.map_cons, List.map_nil]; exact b2.out)) ?_
  simp only [Act.put, List.setIfInBounds_toArray, List.set_cons_zero, List.set_cons_succ]
  have r2 := Lib.hid (B1.out _ (Ext.refl _).drew).2.1
  have E2 := Lib.hid (B1.out _ (Ext.refl _).drew).2.2
  clear B1 R0 R1 b1 b2
  generalize w1.drew = W at *
  refine seqZ_do _ rfl rfl (by rfl) (fun K hK => ?_)
  refine wp_store_row _ _ _ rfl (w.heap.size + 1) (cellsOf S).toArray rfl rfl 58 Z r2.out (by rw [SS]; rfl) (by rw [SS]; exact hz0) OS ?_
  refine hK.out _ _ (.inl rfl) ?_
  clear hK K
  (try simp only [Act.put, List.setIfInBounds_toArray, List.set_cons_zero, List.set_cons_succ])
  refine seqZ_done ?_
  go_wp2_with fail
  (try simp only [Exit.inBlock, Exit.then])
  refine bodyPost_ret (results_cell_row rfl _ _ (w.heap.size + 1) 58 (cellsOf S).toArray (0, 0) _ rfl (setRow_heap _ _ _ _ _ _ r2.out) rfl rfl (by rw [SS]; rfl)) rfl ?_
  exact ⟨rfl, below_setRow E2.out (Nat.le_succ _) _⟩
end Go.Proofs.YthdjojindijmnaaDoor
