/-
  The law's awake (layer 3): two keys, reckoned out by the kernel.
-/
import Derived.Test.YtdiigbknfjceoaaDoorKeysK
import Derived.Test.YtdiigbknfjceoaaDoorMid
namespace Go.Proofs.YtdiigbknfjceoaaDoor
open Go.ChangeShapes Go.WideShapes Go.ChangeAt Go.RowKit Go.Deep

def key1 : List UInt8 := 1 :: List.replicate 31 0
def key1C : Array Value := #[Value.int .u8 1, Value.int .u8 0, Value.int .u8 0, Value.int .u8 0, Value.int .u8 0, Value.int .u8 0, Value.int .u8 0, Value.int .u8 0, Value.int .u8 0, Value.int .u8 0, Value.int .u8 0, Value.int .u8 0, Value.int .u8 0, Value.int .u8 0, Value.int .u8 0, Value.int .u8 0, Value.int .u8 0, Value.int .u8 0, Value.int .u8 0, Value.int .u8 0, Value.int .u8 0, Value.int .u8 0, Value.int .u8 0, Value.int .u8 0, Value.int .u8 0, Value.int .u8 0, Value.int .u8 0, Value.int .u8 0, Value.int .u8 0, Value.int .u8 0, Value.int .u8 0, Value.int .u8 0]
theorem key1_cells : (cellsOf key1).toArray = key1C := by kernel_rfl
theorem two_keys : decide (keyL key1 [97] = keyL key1 [98]) = false := by decide +kernel
theorem spread_bt {ks ps : List UInt8} {m j : Nat} (h : 32 ≤ m) (hj : j < 32) : bt (spreadL ks ps m) j = bt (keyL ks ps) j := by
  have := spreadL_take ks ps h
  rw [spreadL_32] at this
  unfold keyL
  rw [← this, bt_take hj]

set_option maxRecDepth 100000 in
set_option maxHeartbeats 1000000 in
theorem awake_calls {w : World} {tg : TypeId × Nat × Nat} (hG : Gl w tg) : Calls Tryd.prog 20 #[] w fun e w' => e = .returned (.bool true) ∧ Ext w w' := by
  have hC := Lib.hid key1_cells
  have hne := Lib.hid two_keys
  have h3 := Lib.hid (spread_bt (ks := key1) (ps := [97]) (m := 40) (j := 3) (by decide) (by decide))
  have HG := Lib.hid (fun W e => Gl.kept hG (w' := W) e hG.lt)
  clear hG
  have KL : key1.length = 32 := by decide
  have KC : (cellsOf key1).toArray.size = 32 := by simp [cellsOf_len, KL]
  generalize key1 = K at *
  have KEYS : Hid (∀ (W : World) o, Ext w W → Calls Tryd.prog 25 #[.agg (cellsOf K).toArray, .slice (some ⟨W.heap.size, 0, none⟩) 2 2] (W.alloc (.cells #[.string ⟨#[97]⟩, .string ⟨#[98]⟩] o)) (RetKs [keyL K [97], keyL K [98]] (W.alloc (.cells #[.string ⟨#[97]⟩, .string ⟨#[98]⟩] o)))) := fun W o e => by
    refine keys_calls (ks := K) (l := [[97], [98]]) KL ⟨rfl, fun _ => ⟨_, 0, rfl, by rw [size_alloc]; omega, fun j hj => ?_⟩⟩ (by omega) (fun j => ?_) (HG.out _ (e.alloc _))
    · rw [cell_of_row _ _ _ _ _ (0, 0) (heap_alloc_new _ _)]
      have : j = 0 ∨ j = 1 := by omega
      rcases this with rfl | rfl <;> rfl
    · match j with
      | 0 => decide
      | 1 => decide
      | j + 2 => simp [List.getD]
  have SPREAD : Hid (∀ W : World, Ext w W → Calls Tryd.prog 21 #[.agg (cellsOf K).toArray, .string ⟨#[97]⟩, .int .i64 40] W (RetBsE (spreadL K [97] 40) 0 W)) := fun W e => spread_calls (m := 40) (ps := [97]) KL (by decide) (by omega) (HG.out _ e)
  have SL := spreadL_len K [97] 40
  have K0 := keyL_len K [97]
  have K1 := keyL_len K [98]
  generalize spreadL K [97] 40 = sp at *
  generalize keyL K [97] = k0 at *
  generalize keyL K [98] = k1 at *
  rw [hC.out] at KEYS SPREAD
  clear hC KC
  go_enter Tryd.func20, Tryd.ntmps20
  go_wp2_with fail
  change Calls _ _ #[.agg key1C, _] _ _
  refine (KEYS.out _ _ (Ext.refl w)).mono ?_
  rintro e w1 ⟨g, rfl, hg, kr, e1⟩
  have E1 : Hid (Ext w w1) := ((Ext.refl w).alloc _).trans e1
  replace kr := Lib.hid kr
  clear KEYS hg e1
  go_wp2_with fail
  change Calls _ _ #[.agg key1C, _, _] _ _
  refine (SPREAD.out _ E1.out).mono ?_
  rintro e w2 ⟨A2, n2, c2, rfl, b2, e2⟩
  obtain rfl : n2 = 40 := by rw [← b2.len, SL]
  replace kr := Lib.hid (kr.out.ext e2)
  replace E1 := Lib.hid (E1.out.trans e2)
  clear SPREAD e2
  have n40 := b2.le
  obtain ⟨b, off, rfl, hb, hbc⟩ := b2.pos (by omega)
  have KEEP : Hid (∀ w', Ext w2 w' → w'.cell? ⟨b, off + 3, none⟩ = some (.int .u8 (bt k0 3 : Int)) ∧ w'.cell? ⟨g, 3, none⟩ = some (.int .u8 (bt k0 3 : Int))) := fun w' e => by
    have q1 := (e.cell (p := ⟨b, off + 3, none⟩) hb).trans (hbc 3 (by omega))
    rw [h3.out] at q1
    have q2 := (kr.out.ext e).cell (j := 0) (i := 3) (by simp) (by omega)
    exact ⟨q1, q2⟩
  have R0 : Hid (∀ w', Ext w2 w' → ∀ i v, (cellsOf k0)[i]? = some v → w'.cell? ⟨g, 0 + i, none⟩ = some v) := fun w' e => (kr.out.ext e).row (j := 0) (by simp)
  have R1 : Hid (∀ w', Ext w2 w' → ∀ i v, (cellsOf k1)[i]? = some v → w'.cell? ⟨g, 32 + i, none⟩ = some v) := fun w' e => (kr.out.ext e).row (j := 1) (by simp)
  have C0 : (cellsOf k0).length = 32 := by rw [cellsOf_len, K0]
  have C1 : (cellsOf k1).length = 32 := by rw [cellsOf_len, K1]
  have hnb : Hid ((!decide (k0 = k1)) = true) := by
    unfold Hid
    rw [hne.out]; rfl
  clear hbc h3 b2
  go_wp2_with fail
  refine wp_region_seq (R := Ext) Ext.refl (fun _ _ _ => Ext.trans) [0, 1, 2, 3, 4, 5, 6, 7, 8, 9, 10, 11, 12, 13, 14, 15, 16, 17, 18, 19, 20, 21, 22, 23, 24, 25, 26, 27, 28, 29, 30, 31] [] [(0, 13, 4), (1, 14, 8192), (2, 15, 16384), (4, 16, 32768), (8, 17, 65540), (24, 18, 196608), (40, 19, 327680), (8, 20, 65540), (136, 21, 1114112), (264, 22, 2162688), (584, 23, 4784128), (1032, 24, 8454144), (2056, 25, 16777216), (4096, 26, 33554448), (12288, 27, 100663296), (20480, 28, 167772160), (36864, 29, 268435456), (65536, 30, 536870920), (196608, 31, 1610612736), (327680, 32, 2684354560), (589824, 33, 4831838208), (1114112, 34, 8589934592), (2097152, 35, 17179869192), (6291456, 36, 51539607552), (10485760, 37, 85899345920), (2097152, 38, 17179869188), (35651584, 39, 292057776128), (69206016, 40, 566935683072), (136314880, 41, 1116691496960), (287309824, 42, 2353642078208), (538968064, 43, 4415226380288), (2147483647, 1, 8796093022208)] (by kernel_rfl) (by kernel_rfl) (by kernel_rfl) rfl (by kernel_rfl) (by kernel_rfl) (fun _ _ d _ _ h => by cases d <;> exact h) ?_
  repeat (first | (refine seq_read _ (fun w' e => KEEP.out w' ((Ext.refl _).drew.trans e)) _ (v := ?_) rfl rfl (by rfl) ?_ ?_; rotate_left; (· intro w' hF; go_simp; (try with_reducible rfl)); simp only [Act.put, List.setIfInBounds_toArray, List.set_cons_zero, List.set_cons_succ]) | (refine seq_skip _ rfl rfl (by rfl) ?_; simp only [Act.put, List.setIfInBounds_toArray, List.set_cons_zero, List.set_cons_succ]))
  refine seq_read (fun w' => ∀ j v, (cellsOf k0)[j]? = some v → w'.cell? ⟨g, 0 + j, none⟩ = some v) (fun w' e => R0.out w' ((Ext.refl _).drew.trans e)) _ (v := .agg (cellsOf k0).toArray) rfl rfl (by rfl) (fun w' hF => exec_load_mid rfl rfl hF rfl rfl (by rw [C0]; rfl)) ?_
  simp only [Act.put, List.setIfInBounds_toArray, List.set_cons_zero, List.set_cons_succ]
  repeat (first | (refine seq_read _ (fun w' e => KEEP.out w' ((Ext.refl _).drew.trans e)) _ (v := ?_) rfl rfl (by rfl) ?_ ?_; rotate_left; (· intro w' hF; go_simp; (try with_reducible rfl)); simp only [Act.put, List.setIfInBounds_toArray, List.set_cons_zero, List.set_cons_succ]) | (refine seq_skip _ rfl rfl (by rfl) ?_; simp only [Act.put, List.setIfInBounds_toArray, List.set_cons_zero, List.set_cons_succ]))
  refine seq_read (fun w' => ∀ j v, (cellsOf k1)[j]? = some v → w'.cell? ⟨g, 32 + j, none⟩ = some v) (fun w' e => R1.out w' ((Ext.refl _).drew.trans e)) _ (v := .agg (cellsOf k1).toArray) rfl rfl (by rfl) (fun w' hF => exec_load_mid rfl rfl hF rfl rfl (by rw [C1]; rfl)) ?_
  simp only [Act.put, List.setIfInBounds_toArray, List.set_cons_zero, List.set_cons_succ]
  refine seq_read (fun _ => True) (fun _ _ => trivial) _ (v := .bool true) rfl rfl (by rfl) (fun w' _ => exec_neq_keyB hnb.out K0 K1 rfl rfl rfl) ?_
  simp only [Act.put, List.setIfInBounds_toArray, List.set_cons_zero, List.set_cons_succ]
  repeat (first | (refine seq_read _ (fun w' e => KEEP.out w' ((Ext.refl _).drew.trans e)) _ (v := ?_) rfl rfl (by rfl) ?_ ?_; rotate_left; (· intro w' hF; go_simp; (try with_reducible rfl)); simp only [Act.put, List.setIfInBounds_toArray, List.set_cons_zero, List.set_cons_succ]) | (refine seq_skip _ rfl rfl (by rfl) ?_; simp only [Act.put, List.setIfInBounds_toArray, List.set_cons_zero, List.set_cons_succ]))
  refine seq_done ?_
  go_wp2_with fail
  go_ret
  exact ⟨rfl, E1.out.drew⟩
end Go.Proofs.YtdiigbknfjceoaaDoor
