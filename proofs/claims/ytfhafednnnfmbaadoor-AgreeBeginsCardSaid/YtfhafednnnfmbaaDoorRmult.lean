import Derived.Test.YtfhafednnnfmbaaDoorPkD
import Derived.Test.YtfhafednnnfmbaaDoorFree
/-
  palfreyref07.Mult: the ladder, by digits.
-/
namespace Go.Proofs.YtfhafednnnfmbaaDoor
open Go.ChangeShapes Go.WideShapes Go.ChangeAt Go.RowKit Go.Deep
set_option maxRecDepth 100000

theorem mulP_sq (x l : Nat) : mulP x (mulP l l) = mulP (mulP x l) l := by
  unfold mulP
  rw [Nat.mul_mod_mod, Nat.mod_mul_mod, Nat.mul_assoc]

set_option maxHeartbeats 16000000 in
theorem rmult_calls {ks ps : List UInt8} {w : World} (hk : ks.length = 32) (hp : ps.length = 32) :
    Calls Tryd.prog 25 #[.agg (cellsOf ks).toArray, .agg (cellsOf ps).toArray] w fun e w' => e = .returned (.agg (cellsOf (kL (multN ks (ofV ps)))).toArray) ∧ Ext w w' := by
  obtain ⟨x, hx⟩ : ∃ x, x = ofV ps := ⟨_, rfl⟩
  have OFA : Hid (∀ W, Calls Tryd.prog 33 #[.agg (cellsOf ps).toArray] W fun e w' => ∃ es, IsN es x ∧ e = .returned (.agg (ucells es).toArray) ∧ Ext W w') := fun W => by rw [hx]; exact nof_calls hp
  rw [← hx]
  obtain ⟨B, hB⟩ : ∃ B : Nat → Bool, B = fun m => bitB ks (254 - m) := ⟨_, rfl⟩
  have BIT : Hid (∀ (m n : Nat) (W : World), m + n = 254 → Calls Tryd.prog 34 #[.agg (cellsOf ks).toArray, .int .i64 (n : Int)] W fun e w' => e = .returned (.bool (B m)) ∧ Ext W w') := fun m n W h => by
    have := rbit_calls (ks := ks) (n := n) (w := W) hk (by omega)
    rw [hB]
    show Calls _ _ _ _ fun e w' => e = .returned (.bool (bitB ks (254 - m))) ∧ _
    rw [show 254 - m = n by omega]
    exact this
  obtain ⟨S, hS⟩ : ∃ S : Nat → StN, S = ladN x B := ⟨_, rfl⟩
  have S1 : Hid (∀ m, S (m + 1) = swapN (B m) (stepN x (swapN (B m) (S m)))) := fun m => by rw [hS]; rfl
  have RES : Hid (multN ks x = mulP (S 255).1 (invF (S 255).2.2.1)) := by unfold Hid; rw [hS, hB]; rfl
  have S0 : Hid (S 0 = (1, x, 0, 1)) := by unfold Hid; rw [hS]; rfl
  clear hS hB hx
  have L_rk := kL_len (multN ks x)
  have hrk : Hid (kL (multN ks x) = kL (mulP (S 255).1 (invF (S 255).2.2.1))) := by unfold Hid; rw [RES.out]
  clear RES
  generalize kL (multN ks x) = rk at *
  have S_rk : (cellsOf rk).toArray.size = 32 := by simp [cellsOf_len, L_rk]
  have O_rk := cellsOf_one rk
  have S_ks : (cellsOf ks).toArray.size = 32 := by simp [cellsOf_len, hk]
  have S_ps : (cellsOf ps).toArray.size = 32 := by simp [cellsOf_len, hp]
  have hal := num_alloc
  have hbz := Lib.hid zeroD_built
  have n_zn := Lib.hid zd16_is
  generalize zd16 = zn at *
  have S_zn := ucells_size n_zn.out.len
  have O_zn := ucells_one zn
  have hb1 := Lib.hid oneD_built
  have n_ow := Lib.hid oneD_is
  generalize oneD = ow at *
  have S_ow := ucells_size n_ow.out.len
  have O_ow := ucells_one ow
  have hbf := Lib.hid facD_built
  have n_fw := Lib.hid facD_is
  generalize facD = fw at *
  have S_fw := ucells_size n_fw.out.len
  have O_fw := ucells_one fw
  have hal2 : ∀ w, (zeroValue 23).run Tryd.prog w = .ok (.agg (cellsOf (List.replicate 32 0)).toArray) w := fun w => by rw [zeros32_cells]; exact key_alloc w
  have L_zk : (List.replicate 32 (0 : UInt8)).length = 32 := rfl
  generalize List.replicate 32 (0 : UInt8) = zk at *
  have S_zk : (cellsOf zk).toArray.size = 32 := by simp [cellsOf_len, L_zk]
  have B0 : Hid (Ky (((w.alloc (Obj.cells (cellsOf ks).toArray 23)).alloc (Obj.cells (cellsOf ps).toArray 23)).alloc (Obj.cells (cellsOf zk).toArray 23)) w.heap.size ks ∧ Ky (((w.alloc (Obj.cells (cellsOf ks).toArray 23)).alloc (Obj.cells (cellsOf ps).toArray 23)).alloc (Obj.cells (cellsOf zk).toArray 23)) (w.heap.size + 1) ps ∧ Ky (((w.alloc (Obj.cells (cellsOf ks).toArray 23)).alloc (Obj.cells (cellsOf ps).toArray 23)).alloc (Obj.cells (cellsOf zk).toArray 23)) (w.heap.size + 1 + 1) zk ∧ Ext w (((w.alloc (Obj.cells (cellsOf ks).toArray 23)).alloc (Obj.cells (cellsOf ps).toArray 23)).alloc (Obj.cells (cellsOf zk).toArray 23))) := ⟨⟨heap_alloc30 _ _ _ _, hk⟩, ⟨heap_alloc31 _ _ _ _, hp⟩, ⟨heap_alloc32 _ _ _ _, L_zk⟩, (((Ext.refl w).alloc _).alloc _).alloc _⟩
  go_enter Tryd.func25, Tryd.ntmps25
  go_upto_region 1 with fail
  refine wp_gen (fun W => Ky W w.heap.size ks ∧ Ky W (w.heap.size + 1) ps ∧ Ky W (w.heap.size + 1 + 1) zk ∧ Ext w W) B0.out ?_
  clear B0
  rintro w0_ ⟨KS, KP, KZ, KE⟩
  replace KS := Lib.hid KS
  replace KP := Lib.hid KP
  replace KZ := Lib.hid KZ
  replace KE := Lib.hid KE
  go_wp2_with (refine wpList_load_row rfl 23 _ rfl (w.heap.size + 1) rfl 23 (cellsOf ps).toArray (0, 0) _ KP.out.1 rfl rfl (by rw [S_ps]; rfl) ?_; simp only [Act.put, List.setIfInBounds_toArray, List.set_cons_zero, List.set_cons_succ])
  refine (OFA.out _).mono ?_
  rintro e u_ ⟨cx, n_cx, rfl, e1⟩
  have S_cx := ucells_size n_cx.len
  have O_cx := ucells_one cx
  replace n_cx := Lib.hid n_cx
  have a1 : Hid ((u_.alloc (Obj.cells (ucells zn).toArray 68)).heap[u_.heap.size]? = some (.cells (ucells zn).toArray 68 (0, 0))) := heap_alloc_new _ _
  have E_ : Ext w0_ ((u_.alloc (Obj.cells (ucells zn).toArray 68)).setRow u_.heap.size (ucells cx).toArray) := e1.trans (below_setRow ((Ext.refl u_).alloc _) (Nat.le_refl _) _)
  go_upto_region 2 with (first
    | (refine wpList_store_row rfl 68 _ _ rfl u_.heap.size (ucells cx).toArray rfl rfl 68 _ a1.out (by rw [S_cx]; rfl) (by rw [S_cx, S_zn]) O_cx ?_; simp only [Act.put]))
  obtain ⟨g5, hg_⟩ : ∃ g, g = u_.heap.size := ⟨_, rfl⟩
  have z5 : w.heap.size + 1 + 1 < g5 := by rw [hg_]; exact Nat.lt_of_lt_of_le (heap_lt KZ.out.1) e1.size
  refine wp_gen (fun W => Ur W g5 68 cx ∧ Ky W w.heap.size ks ∧ Ky W (w.heap.size + 1) ps ∧ Ky W (w.heap.size + 1 + 1) zk ∧ Ext w W) ⟨by rw [hg_]; exact setRow_heap _ _ _ _ _ _ a1.out,
      KS.out.ext E_,
      KP.out.ext E_,
      KZ.out.ext E_,
      KE.out.trans E_⟩ ?_
  rw [← hg_]
  clear KS KP KZ KE hg_ a1 E_ e1 OFA
  rintro w1_ ⟨K5, KS, KP, KZ, KE⟩
  replace K5 := Lib.hid K5
  replace KS := Lib.hid KS
  replace KP := Lib.hid KP
  replace KZ := Lib.hid KZ
  replace KE := Lib.hid KE
  have a1 : Hid ((w1_.alloc (Obj.cells (ucells zn).toArray 68)).heap[w1_.heap.size]? = some (.cells (ucells zn).toArray 68 (0, 0))) := heap_alloc_new _ _
  have E_ : Ext w1_ ((w1_.alloc (Obj.cells (ucells zn).toArray 68)).setRow w1_.heap.size (ucells ow).toArray) := below_setRow ((Ext.refl w1_).alloc _) (Nat.le_refl _) _
  go_upto_region 3 with (first
    | (refine wpList_build_as rfl _ _ rfl (ucells ow).toArray (by simp only [List.map_toArray, List.map_cons, List.map_nil]; exact hb1.out) ?_; simp only [Act.put, List.setIfInBounds_toArray, List.set_cons_zero, List.set_cons_succ])
    | (refine wpList_store_row rfl 68 _ _ rfl w1_.heap.size (ucells ow).toArray rfl rfl 68 _ a1.out (by rw [S_ow]; rfl) (by rw [S_ow, S_zn]) O_ow ?_; simp only [Act.put]))
  obtain ⟨g6, hg_⟩ : ∃ g, g = w1_.heap.size := ⟨_, rfl⟩
  have z6 : g5 < g6 := by rw [hg_]; exact K5.out.lt
  refine wp_gen (fun W => Ur W g5 68 cx ∧ Ur W g6 68 ow ∧ Ky W w.heap.size ks ∧ Ky W (w.heap.size + 1) ps ∧ Ky W (w.heap.size + 1 + 1) zk ∧ Ext w W) ⟨K5.out.kept E_ K5.out.lt,
      by rw [hg_]; exact setRow_heap _ _ _ _ _ _ a1.out,
      KS.out.ext E_,
      KP.out.ext E_,
      KZ.out.ext E_,
      KE.out.trans E_⟩ ?_
  rw [← hg_]
  clear K5 KS KP KZ KE hg_ a1 E_
  rintro w2_ ⟨K5, K6, KS, KP, KZ, KE⟩
  replace K5 := Lib.hid K5
  replace K6 := Lib.hid K6
  replace KS := Lib.hid KS
  replace KP := Lib.hid KP
  replace KZ := Lib.hid KZ
  replace KE := Lib.hid KE
  have a1 : Hid ((w2_.alloc (Obj.cells (ucells zn).toArray 68)).heap[w2_.heap.size]? = some (.cells (ucells zn).toArray 68 (0, 0))) := heap_alloc_new _ _
  have E_ : Ext w2_ ((w2_.alloc (Obj.cells (ucells zn).toArray 68)).setRow w2_.heap.size (ucells cx).toArray) := below_setRow ((Ext.refl w2_).alloc _) (Nat.le_refl _) _
  go_upto_region 4 with (first
    | (refine wpList_load_row rfl 68 _ rfl g5 rfl 68 (ucells cx).toArray (0, 0) _ K5.out rfl rfl (by rw [S_cx]; rfl) ?_; simp only [Act.put, List.setIfInBounds_toArray, List.set_cons_zero, List.set_cons_succ])
    | (refine wpList_store_row rfl 68 _ _ rfl w2_.heap.size (ucells cx).toArray rfl rfl 68 _ a1.out (by rw [S_cx]; rfl) (by rw [S_cx, S_zn]) O_cx ?_; simp only [Act.put]))
  obtain ⟨g7, hg_⟩ : ∃ g, g = w2_.heap.size := ⟨_, rfl⟩
  have z7 : g6 < g7 := by rw [hg_]; exact K6.out.lt
  refine wp_gen (fun W => Ur W g5 68 cx ∧ Ur W g6 68 ow ∧ Ur W g7 68 cx ∧ Ky W w.heap.size ks ∧ Ky W (w.heap.size + 1) ps ∧ Ky W (w.heap.size + 1 + 1) zk ∧ Ext w W) ⟨K5.out.kept E_ K5.out.lt,
      K6.out.kept E_ K6.out.lt,
      by rw [hg_]; exact setRow_heap _ _ _ _ _ _ a1.out,
      KS.out.ext E_,
      KP.out.ext E_,
      KZ.out.ext E_,
      KE.out.trans E_⟩ ?_
  rw [← hg_]
  clear K5 K6 KS KP KZ KE hg_ a1 E_
  rintro w3_ ⟨K5, K6, K7, KS, KP, KZ, KE⟩
  replace K5 := Lib.hid K5
  replace K6 := Lib.hid K6
  replace K7 := Lib.hid K7
  replace KS := Lib.hid KS
  replace KP := Lib.hid KP
  replace KZ := Lib.hid KZ
  replace KE := Lib.hid KE
  have a1 : Hid ((w3_.alloc (Obj.cells (ucells zn).toArray 68)).heap[w3_.heap.size]? = some (.cells (ucells zn).toArray 68 (0, 0))) := heap_alloc_new _ _
  have E_ : Ext w3_ ((w3_.alloc (Obj.cells (ucells zn).toArray 68)).setRow w3_.heap.size (ucells zn).toArray) := below_setRow ((Ext.refl w3_).alloc _) (Nat.le_refl _) _
  go_upto_region 5 with (first
    | (refine wpList_build_as rfl _ _ rfl (ucells zn).toArray (by simp only [List.map_toArray, List.map_cons, List.map_nil]; exact hbz.out) ?_; simp only [Act.put, List.setIfInBounds_toArray, List.set_cons_zero, List.set_cons_succ])
    | (refine wpList_store_row rfl 68 _ _ rfl w3_.heap.size (ucells zn).toArray rfl rfl 68 _ a1.out (by rw [S_zn]; rfl) rfl O_zn ?_; simp only [Act.put]))
  obtain ⟨g8, hg_⟩ : ∃ g, g = w3_.heap.size := ⟨_, rfl⟩
  have z8 : g7 < g8 := by rw [hg_]; exact K7.out.lt
  refine wp_gen (fun W => Ur W g5 68 cx ∧ Ur W g6 68 ow ∧ Ur W g7 68 cx ∧ Ur W g8 68 zn ∧ Ky W w.heap.size ks ∧ Ky W (w.heap.size + 1) ps ∧ Ky W (w.heap.size + 1 + 1) zk ∧ Ext w W) ⟨K5.out.kept E_ K5.out.lt,
      K6.out.kept E_ K6.out.lt,
      K7.out.kept E_ K7.out.lt,
      by rw [hg_]; exact setRow_heap _ _ _ _ _ _ a1.out,
      KS.out.ext E_,
      KP.out.ext E_,
      KZ.out.ext E_,
      KE.out.trans E_⟩ ?_
  rw [← hg_]
  clear K5 K6 K7 KS KP KZ KE hg_ a1 E_
  rintro w4_ ⟨K5, K6, K7, K8, KS, KP, KZ, KE⟩
  replace K5 := Lib.hid K5
  replace K6 := Lib.hid K6
  replace K7 := Lib.hid K7
  replace K8 := Lib.hid K8
  replace KS := Lib.hid KS
  replace KP := Lib.hid KP
  replace KZ := Lib.hid KZ
  replace KE := Lib.hid KE
  have a1 : Hid ((w4_.alloc (Obj.cells (ucells zn).toArray 68)).heap[w4_.heap.size]? = some (.cells (ucells zn).toArray 68 (0, 0))) := heap_alloc_new _ _
  have E_ : Ext w4_ ((w4_.alloc (Obj.cells (ucells zn).toArray 68)).setRow w4_.heap.size (ucells ow).toArray) := below_setRow ((Ext.refl w4_).alloc _) (Nat.le_refl _) _
  go_upto_region 6 with (first
    | (refine wpList_build_as rfl _ _ rfl (ucells ow).toArray (by simp only [List.map_toArray, List.map_cons, List.map_nil]; exact hb1.out) ?_; simp only [Act.put, List.setIfInBounds_toArray, List.set_cons_zero, List.set_cons_succ])
    | (refine wpList_store_row rfl 68 _ _ rfl w4_.heap.size (ucells ow).toArray rfl rfl 68 _ a1.out (by rw [S_ow]; rfl) (by rw [S_ow, S_zn]) O_ow ?_; simp only [Act.put]))
  obtain ⟨g9, hg_⟩ : ∃ g, g = w4_.heap.size := ⟨_, rfl⟩
  have z9 : g8 < g9 := by rw [hg_]; exact K8.out.lt
  refine wp_gen (fun W => Ur W g5 68 cx ∧ Ur W g6 68 ow ∧ Ur W g7 68 cx ∧ Ur W g8 68 zn ∧ Ur W g9 68 ow ∧ Ky W w.heap.size ks ∧ Ky W (w.heap.size + 1) ps ∧ Ky W (w.heap.size + 1 + 1) zk ∧ Ext w W) ⟨K5.out.kept E_ K5.out.lt,
      K6.out.kept E_ K6.out.lt,
      K7.out.kept E_ K7.out.lt,
      K8.out.kept E_ K8.out.lt,
      by rw [hg_]; exact setRow_heap _ _ _ _ _ _ a1.out,
      KS.out.ext E_,
      KP.out.ext E_,
      KZ.out.ext E_,
      KE.out.trans E_⟩ ?_
  rw [← hg_]
  clear K5 K6 K7 K8 KS KP KZ KE hg_ a1 E_
  rintro w5_ ⟨K5, K6, K7, K8, K9, KS, KP, KZ, KE⟩
  replace K5 := Lib.hid K5
  replace K6 := Lib.hid K6
  replace K7 := Lib.hid K7
  replace K8 := Lib.hid K8
  replace K9 := Lib.hid K9
  replace KS := Lib.hid KS
  replace KP := Lib.hid KP
  replace KZ := Lib.hid KZ
  replace KE := Lib.hid KE
  have P3 : Hid (∀ s, Below g6 w5_ s → Ky s w.heap.size ks ∧ Ky s (w.heap.size + 1 + 1) zk ∧ Ur s g5 68 cx ∧ Ext w s) := fun s e =>
    ⟨⟨(e.block _ (by omega)).trans KS.out.1, KS.out.2⟩, ⟨(e.block _ (by omega)).trans KZ.out.1, KZ.out.2⟩, K5.out.kept e z6, Below.trans KE.out (e.mono (by omega))⟩
  clear KS KP KZ KE K5
  go_wp2_with fail
  go_loopw [10] (fun iv wr => ∃ (m : Nat) (c6 c7 c8 c9 : List Nat), m ≤ 255 ∧ iv = .int .i64 (254 - (m : Int)) ∧ Ur wr g6 68 c6 ∧ Ur wr g7 68 c7 ∧ Ur wr g8 68 c8 ∧ Ur wr g9 68 c9 ∧ IsN c6 (S m).1 ∧ IsN c7 (S m).2.1 ∧ IsN c8 (S m).2.2.1 ∧ IsN c9 (S m).2.2.2 ∧ Below g6 w5_ wr) (fun iv _ => (intOf iv + 1).toNat)
  case atStart =>
    exact ⟨0, ow, cx, zn, ow, Nat.zero_le _, rfl, K6.out, K7.out, K8.out, K9.out, by rw [S0.out]; exact n_ow.out, by rw [S0.out]; exact n_cx.out, by rw [S0.out]; exact n_zn.out, by rw [S0.out]; exact n_ow.out, Below.refl _ _⟩
  case round =>
    clear K6 K7 K8 K9 S0
    obtain ⟨m, c6, c7, c8, c9, hm, rfl, K6, K7, K8, K9, n6, n7, n8, n9, KB⟩ := hrel
    by_cases hlt : m < 255
    · obtain ⟨n, hn⟩ : ∃ n : Nat, m + n = 254 := ⟨254 - m, by omega⟩
      obtain ⟨b, hb⟩ : ∃ b : Int, b = 254 - (m : Int) := ⟨_, rfl⟩
      have hbn : (n : Int) = b := by omega
      rw [← hb]
      have hbn1 : Hid (b - 1 = 254 - ((m + 1 : Nat) : Int)) := by unfold Hid; omega
      have hme : Hid ((b - 1 + 1).toNat < (b + 1).toNat) := by unfold Hid; omega
      have b0 : (0 : Int) ≤ b := by omega
      have b1 : b ≤ 254 := by omega
      have bw : IntKind.i64.wrap (b - 1) = b - 1 := IntWalk.i64_in _ (by omega)
      have BT := Lib.hid (fun W => BIT.out m n W hn)
      rw [hbn] at BT
      have hm1 : Hid (m + 1 ≤ 255) := by unfold Hid; omega
      clear BIT hn hbn hb hlt hm hrk
      have S_c6 := ucells_size n6.len
      have S_c7 := ucells_size n7.len
      have S_c8 := ucells_size n8.len
      have S_c9 := ucells_size n9.len
      have O_c6 := ucells_one c6
      have O_c7 := ucells_one c7
      have O_c8 := ucells_one c8
      have O_c9 := ucells_one c9
      obtain ⟨va, hva⟩ : ∃ v, v = (S m).1 := ⟨_, rfl⟩
      obtain ⟨vb, hvb⟩ : ∃ v, v = (S m).2.1 := ⟨_, rfl⟩
      obtain ⟨vc, hvc⟩ : ∃ v, v = (S m).2.2.1 := ⟨_, rfl⟩
      obtain ⟨vd, hvd⟩ : ∃ v, v = (S m).2.2.2 := ⟨_, rfl⟩
      rw [← hva] at n6
      rw [← hvb] at n7
      rw [← hvc] at n8
      rw [← hvd] at n9
      replace n6 := Lib.hid n6
      replace n7 := Lib.hid n7
      replace n8 := Lib.hid n8
      replace n9 := Lib.hid n9
      replace K6 := Lib.hid K6
      replace K7 := Lib.hid K7
      replace K8 := Lib.hid K8
      replace K9 := Lib.hid K9
      have SM : Hid (∀ _ : Unit, S m = (va, vb, vc, vd)) := fun _ => by rw [hva, hvb, hvc, hvd]
      clear hva hvb hvc hvd
      have S1m : Hid (∀ _ : Unit, S (m + 1) = swapN (B m) (stepN x (swapN (B m) (va, vb, vc, vd)))) := fun _ => by rw [S1.out m, SM.out ()]
      clear S1 SM
      have K5 := Lib.hid (P3.out _ KB).2.2.1
      replace KB := Lib.hid KB
      rcases Bool.eq_false_or_eq_true (B m) with hbt | hbt
      · rw [hbt] at BT S1m
        clear hbt
        have KX := Lib.hid (P3.out _ KB.out).1
        go_wp2_with (refine wpList_load_row rfl 23 _ rfl w.heap.size rfl 23 (cellsOf ks).toArray (0, 0) _ KX.out.1 rfl rfl (by rw [S_ks]; rfl) ?_; simp only [Act.put, List.setIfInBounds_toArray, List.set_cons_zero, List.set_cons_succ])
        refine (BT.out _).mono ?_
        rintro e u_ ⟨rfl, e1⟩
        go_upto_region 10 with fail
        refine wp_gen (fun W => Ur W g5 68 cx ∧ Ur W g6 68 c6 ∧ Ur W g7 68 c7 ∧ Ur W g8 68 c8 ∧ Ur W g9 68 c9 ∧ Below g6 w5_ W) ⟨K5.out.kept e1 K5.out.lt,
            K6.out.kept e1 K6.out.lt,
            K7.out.kept e1 K7.out.lt,
            K8.out.kept e1 K8.out.lt,
            K9.out.kept e1 K9.out.lt,
            Below.trans KB.out (e1.mono (Nat.le_of_lt K6.out.lt))⟩ ?_
        clear K5 K6 K7 K8 K9 KB KX e1
        rintro w7_ ⟨K5, K6, K7, K8, K9, KB⟩
        replace K5 := Lib.hid K5
        replace K6 := Lib.hid K6
        replace K7 := Lib.hid K7
        replace K8 := Lib.hid K8
        replace K9 := Lib.hid K9
        replace KB := Lib.hid KB
        have a1 : Hid ((w7_.alloc (Obj.cells (ucells zn).toArray 68)).heap[w7_.heap.size]? = some (.cells (ucells zn).toArray 68 (0, 0))) := heap_alloc_new _ _
        have E_ : Ext w7_ ((w7_.alloc (Obj.cells (ucells zn).toArray 68)).setRow w7_.heap.size (ucells c6).toArray) := below_setRow ((Ext.refl w7_).alloc _) (Nat.le_refl _) _
        go_upto_region 11 with (first
          | (refine wpList_load_row rfl 68 _ rfl g6 rfl 68 (ucells c6).toArray (0, 0) _ K6.out rfl rfl (by rw [S_c6]; rfl) ?_; simp only [Act.put, List.setIfInBounds_toArray, List.set_cons_zero, List.set_cons_succ])
          | (refine wpList_store_row rfl 68 _ _ rfl w7_.heap.size (ucells c6).toArray rfl rfl 68 _ a1.out (by rw [S_c6]; rfl) (by rw [S_c6, S_zn]) O_c6 ?_; simp only [Act.put]))
        obtain ⟨g11, hg_⟩ : ∃ g, g = w7_.heap.size := ⟨_, rfl⟩
        have z11 : g9 < g11 := by rw [hg_]; exact K9.out.lt
        refine wp_gen (fun W => Ur W g5 68 cx ∧ Ur W g6 68 c6 ∧ Ur W g7 68 c7 ∧ Ur W g8 68 c8 ∧ Ur W g9 68 c9 ∧ Ur W g11 68 c6 ∧ Below g6 w5_ W) ⟨K5.out.kept E_ K5.out.lt,
            K6.out.kept E_ K6.out.lt,
            K7.out.kept E_ K7.out.lt,
            K8.out.kept E_ K8.out.lt,
            K9.out.kept E_ K9.out.lt,
            by rw [hg_]; exact setRow_heap _ _ _ _ _ _ a1.out,
            Below.trans KB.out (E_.mono (Nat.le_of_lt K6.out.lt))⟩ ?_
        rw [← hg_]
        clear K5 K6 K7 K8 K9 KB hg_ a1 E_
        rintro w8_ ⟨K5, K6, K7, K8, K9, K11, KB⟩
        replace K5 := Lib.hid K5
        replace K6 := Lib.hid K6
        replace K7 := Lib.hid K7
        replace K8 := Lib.hid K8
        replace K9 := Lib.hid K9
        replace K11 := Lib.hid K11
        replace KB := Lib.hid KB
        go_upto_region 12 with (first
          | (refine wpList_load_row rfl 68 _ rfl g7 rfl 68 (ucells c7).toArray (0, 0) _ K7.out rfl rfl (by rw [S_c7]; rfl) ?_; simp only [Act.put, List.setIfInBounds_toArray, List.set_cons_zero, List.set_cons_succ])
          | (refine wpList_store_row rfl 68 _ _ rfl g6 (ucells c7).toArray rfl rfl 68 _ K6.out (by rw [S_c7]; rfl) (by rw [S_c7, S_c6]) O_c7 ?_; simp only [Act.put]))
        refine wp_gen (fun W => Ur W g5 68 cx ∧ Ur W g6 68 c7 ∧ Ur W g7 68 c7 ∧ Ur W g8 68 c8 ∧ Ur W g9 68 c9 ∧ Ur W g11 68 c6 ∧ Below g6 w5_ W) ⟨(setRow_other _ _ _ _ (by omega)).trans K5.out,
            setRow_heap _ _ _ _ _ _ K6.out,
            (setRow_other _ _ _ _ (by omega)).trans K7.out,
            (setRow_other _ _ _ _ (by omega)).trans K8.out,
            (setRow_other _ _ _ _ (by omega)).trans K9.out,
            (setRow_other _ _ _ _ (by omega)).trans K11.out,
            below_setRow KB.out (by omega) _⟩ ?_
        clear K5 K6 K7 K8 K9 K11 KB
        rintro w9_ ⟨K5, K6, K7, K8, K9, K11, KB⟩
        replace K5 := Lib.hid K5
        replace K6 := Lib.hid K6
        replace K7 := Lib.hid K7
        replace K8 := Lib.hid K8
        replace K9 := Lib.hid K9
        replace K11 := Lib.hid K11
        replace KB := Lib.hid KB
        go_upto_region 13 with (first
          | (refine wpList_load_row rfl 68 _ rfl g11 rfl 68 (ucells c6).toArray (0, 0) _ K11.out rfl rfl (by rw [S_c6]; rfl) ?_; simp only [Act.put, List.setIfInBounds_toArray, List.set_cons_zero, List.set_cons_succ])
          | (refine wpList_store_row rfl 68 _ _ rfl g7 (ucells c6).toArray rfl rfl 68 _ K7.out (by rw [S_c6]; rfl) (by rw [S_c6, S_c7]) O_c6 ?_; simp only [Act.put]))
        refine wp_gen (fun W => Ur W g5 68 cx ∧ Ur W g6 68 c7 ∧ Ur W g7 68 c6 ∧ Ur W g8 68 c8 ∧ Ur W g9 68 c9 ∧ Ur W g11 68 c6 ∧ Below g6 w5_ W) ⟨(setRow_other _ _ _ _ (by omega)).trans K5.out,
            (setRow_other _ _ _ _ (by omega)).trans K6.out,
            setRow_heap _ _ _ _ _ _ K7.out,
            (setRow_other _ _ _ _ (by omega)).trans K8.out,
            (setRow_other _ _ _ _ (by omega)).trans K9.out,
            (setRow_other _ _ _ _ (by omega)).trans K11.out,
            below_setRow KB.out (by omega) _⟩ ?_
        clear K5 K6 K7 K8 K9 K11 KB
        rintro w10_ ⟨K5, K6, K7, K8, K9, K11, KB⟩
        replace K5 := Lib.hid K5
        replace K6 := Lib.hid K6
        replace K7 := Lib.hid K7
        replace K8 := Lib.hid K8
        replace K9 := Lib.hid K9
        replace K11 := Lib.hid K11
        replace KB := Lib.hid KB
        go_upto_region 14 with (first
          | (refine wpList_load_row rfl 68 _ rfl g8 rfl 68 (ucells c8).toArray (0, 0) _ K8.out rfl rfl (by rw [S_c8]; rfl) ?_; simp only [Act.put, List.setIfInBounds_toArray, List.set_cons_zero, List.set_cons_succ])
          | (refine wpList_store_row rfl 68 _ _ rfl g11 (ucells c8).toArray rfl rfl 68 _ K11.out (by rw [S_c8]; rfl) (by rw [S_c8, S_c6]) O_c8 ?_; simp only [Act.put]))
        refine wp_gen (fun W => Ur W g5 68 cx ∧ Ur W g6 68 c7 ∧ Ur W g7 68 c6 ∧ Ur W g8 68 c8 ∧ Ur W g9 68 c9 ∧ Ur W g11 68 c8 ∧ Below g6 w5_ W) ⟨(setRow_other _ _ _ _ (by omega)).trans K5.out,
            (setRow_other _ _ _ _ (by omega)).trans K6.out,
            (setRow_other _ _ _ _ (by omega)).trans K7.out,
            (setRow_other _ _ _ _ (by omega)).trans K8.out,
            (setRow_other _ _ _ _ (by omega)).trans K9.out,
            setRow_heap _ _ _ _ _ _ K11.out,
            below_setRow KB.out (by omega) _⟩ ?_
        clear K5 K6 K7 K8 K9 K11 KB
        rintro w11_ ⟨K5, K6, K7, K8, K9, K11, KB⟩
        replace K5 := Lib.hid K5
        replace K6 := Lib.hid K6
        replace K7 := Lib.hid K7
        replace K8 := Lib.hid K8
        replace K9 := Lib.hid K9
        replace K11 := Lib.hid K11
        replace KB := Lib.hid KB
        go_upto_region 15 with (first
          | (refine wpList_load_row rfl 68 _ rfl g9 rfl 68 (ucells c9).toArray (0, 0) _ K9.out rfl rfl (by rw [S_c9]; rfl) ?_; simp only [Act.put, List.setIfInBounds_toArray, List.set_cons_zero, List.set_cons_succ])
          | (refine wpList_store_row rfl 68 _ _ rfl g8 (ucells c9).toArray rfl rfl 68 _ K8.out (by rw [S_c9]; rfl) (by rw [S_c9, S_c8]) O_c9 ?_; simp only [Act.put]))
        refine wp_gen (fun W => Ur W g5 68 cx ∧ Ur W g6 68 c7 ∧ Ur W g7 68 c6 ∧ Ur W g8 68 c9 ∧ Ur W g9 68 c9 ∧ Ur W g11 68 c8 ∧ Below g6 w5_ W) ⟨(setRow_other _ _ _ _ (by omega)).trans K5.out,
            (setRow_other _ _ _ _ (by omega)).trans K6.out,
            (setRow_other _ _ _ _ (by omega)).trans K7.out,
            setRow_heap _ _ _ _ _ _ K8.out,
            (setRow_other _ _ _ _ (by omega)).trans K9.out,
            (setRow_other _ _ _ _ (by omega)).trans K11.out,
            below_setRow KB.out (by omega) _⟩ ?_
        clear K5 K6 K7 K8 K9 K11 KB
        rintro w12_ ⟨K5, K6, K7, K8, K9, K11, KB⟩
        replace K5 := Lib.hid K5
        replace K6 := Lib.hid K6
        replace K7 := Lib.hid K7
        replace K8 := Lib.hid K8
        replace K9 := Lib.hid K9
        replace K11 := Lib.hid K11
        replace KB := Lib.hid KB
        go_upto_region 16 with (first
          | (refine wpList_load_row rfl 68 _ rfl g11 rfl 68 (ucells c8).toArray (0, 0) _ K11.out rfl rfl (by rw [S_c8]; rfl) ?_; simp only [Act.put, List.setIfInBounds_toArray, List.set_cons_zero, List.set_cons_succ])
          | (refine wpList_store_row rfl 68 _ _ rfl g9 (ucells c8).toArray rfl rfl 68 _ K9.out (by rw [S_c8]; rfl) (by rw [S_c8, S_c9]) O_c8 ?_; simp only [Act.put]))
        refine wp_gen (fun W => Ur W g5 68 cx ∧ Ur W g6 68 c7 ∧ Ur W g7 68 c6 ∧ Ur W g8 68 c9 ∧ Ur W g9 68 c8 ∧ Ur W g11 68 c8 ∧ Below g6 w5_ W) ⟨(setRow_other _ _ _ _ (by omega)).trans K5.out,
            (setRow_other _ _ _ _ (by omega)).trans K6.out,
            (setRow_other _ _ _ _ (by omega)).trans K7.out,
            (setRow_other _ _ _ _ (by omega)).trans K8.out,
            setRow_heap _ _ _ _ _ _ K9.out,
            (setRow_other _ _ _ _ (by omega)).trans K11.out,
            below_setRow KB.out (by omega) _⟩ ?_
        clear K5 K6 K7 K8 K9 K11 KB
        rintro w13_ ⟨K5, K6, K7, K8, K9, K11, KB⟩
        replace K5 := Lib.hid K5
        replace K6 := Lib.hid K6
        replace K7 := Lib.hid K7
        replace K8 := Lib.hid K8
        replace K9 := Lib.hid K9
        replace K11 := Lib.hid K11
        replace KB := Lib.hid KB
        clear K11
        go_wp2_with (first
          | (refine wpList_load_row rfl 68 _ rfl g6 rfl 68 (ucells c7).toArray (0, 0) _ K6.out rfl rfl (by rw [S_c7]; rfl) ?_; simp only [Act.put, List.setIfInBounds_toArray, List.set_cons_zero, List.set_cons_succ])
          | (refine wpList_load_row rfl 68 _ rfl g8 rfl 68 (ucells c9).toArray (0, 0) _ K8.out rfl rfl (by rw [S_c9]; rfl) ?_; simp only [Act.put, List.setIfInBounds_toArray, List.set_cons_zero, List.set_cons_succ]))
        refine (nadd_calls n7.out n9.out).mono ?_
        rintro e u_ ⟨c_101, n_101, rfl, e1⟩
        obtain ⟨v_102, hv_102⟩ : ∃ v, v = addP vb vd := ⟨_, rfl⟩
        rw [← hv_102] at n_101
        replace hv_102 := Lib.hid (fun _ : Unit => hv_102)
        have S_c_101 := ucells_size n_101.len
        have O_c_101 := ucells_one c_101
        replace n_101 := Lib.hid n_101
        have a1 : Hid ((u_.alloc (Obj.cells (ucells zn).toArray 68)).heap[u_.heap.size]? = some (.cells (ucells zn).toArray 68 (0, 0))) := heap_alloc_new _ _
        have E_ : Ext w13_ ((u_.alloc (Obj.cells (ucells zn).toArray 68)).setRow u_.heap.size (ucells c_101).toArray) := e1.trans (below_setRow ((Ext.refl u_).alloc _) (Nat.le_refl _) _)
        go_upto_region 17 with (first
          | (refine wpList_store_row rfl 68 _ _ rfl u_.heap.size (ucells c_101).toArray rfl rfl 68 _ a1.out (by rw [S_c_101]; rfl) (by rw [S_c_101, S_zn]) O_c_101 ?_; simp only [Act.put]))
        obtain ⟨g12, hg_⟩ : ∃ g, g = u_.heap.size := ⟨_, rfl⟩
        have z12 : g9 < g12 := by rw [hg_]; exact Nat.lt_of_lt_of_le K9.out.lt e1.size
        refine wp_gen (fun W => Ur W g5 68 cx ∧ Ur W g6 68 c7 ∧ Ur W g7 68 c6 ∧ Ur W g8 68 c9 ∧ Ur W g9 68 c8 ∧ Ur W g12 68 c_101 ∧ Below g6 w5_ W) ⟨K5.out.kept E_ K5.out.lt,
            K6.out.kept E_ K6.out.lt,
            K7.out.kept E_ K7.out.lt,
            K8.out.kept E_ K8.out.lt,
            K9.out.kept E_ K9.out.lt,
            by rw [hg_]; exact setRow_heap _ _ _ _ _ _ a1.out,
            Below.trans KB.out (E_.mono (Nat.le_of_lt K6.out.lt))⟩ ?_
        rw [← hg_]
        clear K5 K6 K7 K8 K9 KB hg_ a1 E_ e1
        rintro w14_ ⟨K5, K6, K7, K8, K9, K12, KB⟩
        replace K5 := Lib.hid K5
        replace K6 := Lib.hid K6
        replace K7 := Lib.hid K7
        replace K8 := Lib.hid K8
        replace K9 := Lib.hid K9
        replace K12 := Lib.hid K12
        replace KB := Lib.hid KB
        go_wp2_with (first
          | (refine wpList_load_row rfl 68 _ rfl g6 rfl 68 (ucells c7).toArray (0, 0) _ K6.out rfl rfl (by rw [S_c7]; rfl) ?_; simp only [Act.put, List.setIfInBounds_toArray, List.set_cons_zero, List.set_cons_succ])
          | (refine wpList_load_row rfl 68 _ rfl g8 rfl 68 (ucells c9).toArray (0, 0) _ K8.out rfl rfl (by rw [S_c9]; rfl) ?_; simp only [Act.put, List.setIfInBounds_toArray, List.set_cons_zero, List.set_cons_succ]))
        refine (nsub_calls n7.out n9.out).mono ?_
        rintro e u_ ⟨c_103, n_103, rfl, e1⟩
        obtain ⟨v_104, hv_104⟩ : ∃ v, v = subP vb vd := ⟨_, rfl⟩
        rw [← hv_104] at n_103
        replace hv_104 := Lib.hid (fun _ : Unit => hv_104)
        have S_c_103 := ucells_size n_103.len
        have O_c_103 := ucells_one c_103
        replace n_103 := Lib.hid n_103
        have a1 : Hid ((u_.alloc (Obj.cells (ucells zn).toArray 68)).heap[u_.heap.size]? = some (.cells (ucells zn).toArray 68 (0, 0))) := heap_alloc_new _ _
        have E_ : Ext w14_ ((u_.alloc (Obj.cells (ucells zn).toArray 68)).setRow u_.heap.size (ucells c_103).toArray) := e1.trans (below_setRow ((Ext.refl u_).alloc _) (Nat.le_refl _) _)
        go_upto_region 18 with (first
          | (refine wpList_store_row rfl 68 _ _ rfl u_.heap.size (ucells c_103).toArray rfl rfl 68 _ a1.out (by rw [S_c_103]; rfl) (by rw [S_c_103, S_zn]) O_c_103 ?_; simp only [Act.put]))
        obtain ⟨g13, hg_⟩ : ∃ g, g = u_.heap.size := ⟨_, rfl⟩
        have z13 : g9 < g13 := by rw [hg_]; exact Nat.lt_of_lt_of_le K9.out.lt e1.size
        refine wp_gen (fun W => Ur W g5 68 cx ∧ Ur W g6 68 c7 ∧ Ur W g7 68 c6 ∧ Ur W g8 68 c9 ∧ Ur W g9 68 c8 ∧ Ur W g12 68 c_101 ∧ Ur W g13 68 c_103 ∧ Below g6 w5_ W) ⟨K5.out.kept E_ K5.out.lt,
            K6.out.kept E_ K6.out.lt,
            K7.out.kept E_ K7.out.lt,
            K8.out.kept E_ K8.out.lt,
            K9.out.kept E_ K9.out.lt,
            K12.out.kept E_ K12.out.lt,
            by rw [hg_]; exact setRow_heap _ _ _ _ _ _ a1.out,
            Below.trans KB.out (E_.mono (Nat.le_of_lt K6.out.lt))⟩ ?_
        rw [← hg_]
        clear K5 K6 K7 K8 K9 K12 KB hg_ a1 E_ e1
        rintro w15_ ⟨K5, K6, K7, K8, K9, K12, K13, KB⟩
        replace K5 := Lib.hid K5
        replace K6 := Lib.hid K6
        replace K7 := Lib.hid K7
        replace K8 := Lib.hid K8
        replace K9 := Lib.hid K9
        replace K12 := Lib.hid K12
        replace K13 := Lib.hid K13
        replace KB := Lib.hid KB
        go_wp2_with (first
          | (refine wpList_load_row rfl 68 _ rfl g12 rfl 68 (ucells c_101).toArray (0, 0) _ K12.out rfl rfl (by rw [S_c_101]; rfl) ?_; simp only [Act.put, List.setIfInBounds_toArray, List.set_cons_zero, List.set_cons_succ]))
        refine (nmul_calls n_101.out n_101.out).mono ?_
        rintro e u_ ⟨c_105, n_105, rfl, e1⟩
        obtain ⟨v_106, hv_106⟩ : ∃ v, v = mulP v_102 v_102 := ⟨_, rfl⟩
        rw [← hv_106] at n_105
        replace hv_106 := Lib.hid (fun _ : Unit => hv_106)
        have S_c_105 := ucells_size n_105.len
        have O_c_105 := ucells_one c_105
        replace n_105 := Lib.hid n_105
        have a1 : Hid ((u_.alloc (Obj.cells (ucells zn).toArray 68)).heap[u_.heap.size]? = some (.cells (ucells zn).toArray 68 (0, 0))) := heap_alloc_new _ _
        have E_ : Ext w15_ ((u_.alloc (Obj.cells (ucells zn).toArray 68)).setRow u_.heap.size (ucells c_105).toArray) := e1.trans (below_setRow ((Ext.refl u_).alloc _) (Nat.le_refl _) _)
        go_upto_region 19 with (first
          | (refine wpList_store_row rfl 68 _ _ rfl u_.heap.size (ucells c_105).toArray rfl rfl 68 _ a1.out (by rw [S_c_105]; rfl) (by rw [S_c_105, S_zn]) O_c_105 ?_; simp only [Act.put]))
        obtain ⟨g14, hg_⟩ : ∃ g, g = u_.heap.size := ⟨_, rfl⟩
        have z14 : g9 < g14 := by rw [hg_]; exact Nat.lt_of_lt_of_le K9.out.lt e1.size
        refine wp_gen (fun W => Ur W g5 68 cx ∧ Ur W g6 68 c7 ∧ Ur W g7 68 c6 ∧ Ur W g8 68 c9 ∧ Ur W g9 68 c8 ∧ Ur W g12 68 c_101 ∧ Ur W g13 68 c_103 ∧ Ur W g14 68 c_105 ∧ Below g6 w5_ W) ⟨K5.out.kept E_ K5.out.lt,
            K6.out.kept E_ K6.out.lt,
            K7.out.kept E_ K7.out.lt,
            K8.out.kept E_ K8.out.lt,
            K9.out.kept E_ K9.out.lt,
            K12.out.kept E_ K12.out.lt,
            K13.out.kept E_ K13.out.lt,
            by rw [hg_]; exact setRow_heap _ _ _ _ _ _ a1.out,
            Below.trans KB.out (E_.mono (Nat.le_of_lt K6.out.lt))⟩ ?_
        rw [← hg_]
        clear K5 K6 K7 K8 K9 K12 K13 KB hg_ a1 E_ e1
        rintro w16_ ⟨K5, K6, K7, K8, K9, K12, K13, K14, KB⟩
        replace K5 := Lib.hid K5
        replace K6 := Lib.hid K6
        replace K7 := Lib.hid K7
        replace K8 := Lib.hid K8
        replace K9 := Lib.hid K9
        replace K12 := Lib.hid K12
        replace K13 := Lib.hid K13
        replace K14 := Lib.hid K14
        replace KB := Lib.hid KB
        go_wp2_with (first
          | (refine wpList_load_row rfl 68 _ rfl g13 rfl 68 (ucells c_103).toArray (0, 0) _ K13.out rfl rfl (by rw [S_c_103]; rfl) ?_; simp only [Act.put, List.setIfInBounds_toArray, List.set_cons_zero, List.set_cons_succ]))
        refine (nmul_calls n_103.out n_103.out).mono ?_
        rintro e u_ ⟨c_107, n_107, rfl, e1⟩
        obtain ⟨v_108, hv_108⟩ : ∃ v, v = mulP v_104 v_104 := ⟨_, rfl⟩
        rw [← hv_108] at n_107
        replace hv_108 := Lib.hid (fun _ : Unit => hv_108)
        have S_c_107 := ucells_size n_107.len
        have O_c_107 := ucells_one c_107
        replace n_107 := Lib.hid n_107
        have a1 : Hid ((u_.alloc (Obj.cells (ucells zn).toArray 68)).heap[u_.heap.size]? = some (.cells (ucells zn).toArray 68 (0, 0))) := heap_alloc_new _ _
        have E_ : Ext w16_ ((u_.alloc (Obj.cells (ucells zn).toArray 68)).setRow u_.heap.size (ucells c_107).toArray) := e1.trans (below_setRow ((Ext.refl u_).alloc _) (Nat.le_refl _) _)
        go_upto_region 20 with (first
          | (refine wpList_store_row rfl 68 _ _ rfl u_.heap.size (ucells c_107).toArray rfl rfl 68 _ a1.out (by rw [S_c_107]; rfl) (by rw [S_c_107, S_zn]) O_c_107 ?_; simp only [Act.put]))
        obtain ⟨g15, hg_⟩ : ∃ g, g = u_.heap.size := ⟨_, rfl⟩
        have z15 : g9 < g15 := by rw [hg_]; exact Nat.lt_of_lt_of_le K9.out.lt e1.size
        refine wp_gen (fun W => Ur W g5 68 cx ∧ Ur W g6 68 c7 ∧ Ur W g7 68 c6 ∧ Ur W g8 68 c9 ∧ Ur W g9 68 c8 ∧ Ur W g12 68 c_101 ∧ Ur W g13 68 c_103 ∧ Ur W g14 68 c_105 ∧ Ur W g15 68 c_107 ∧ Below g6 w5_ W) ⟨K5.out.kept E_ K5.out.lt,
            K6.out.kept E_ K6.out.lt,
            K7.out.kept E_ K7.out.lt,
            K8.out.kept E_ K8.out.lt,
            K9.out.kept E_ K9.out.lt,
            K12.out.kept E_ K12.out.lt,
            K13.out.kept E_ K13.out.lt,
            K14.out.kept E_ K14.out.lt,
            by rw [hg_]; exact setRow_heap _ _ _ _ _ _ a1.out,
            Below.trans KB.out (E_.mono (Nat.le_of_lt K6.out.lt))⟩ ?_
        rw [← hg_]
        clear K5 K6 K7 K8 K9 K12 K13 K14 KB hg_ a1 E_ e1
        rintro w17_ ⟨K5, K6, K7, K8, K9, K12, K13, K14, K15, KB⟩
        replace K5 := Lib.hid K5
        replace K6 := Lib.hid K6
        replace K7 := Lib.hid K7
        replace K8 := Lib.hid K8
        replace K9 := Lib.hid K9
        replace K12 := Lib.hid K12
        replace K13 := Lib.hid K13
        replace K14 := Lib.hid K14
        replace K15 := Lib.hid K15
        replace KB := Lib.hid KB
        go_wp2_with (first
          | (refine wpList_load_row rfl 68 _ rfl g14 rfl 68 (ucells c_105).toArray (0, 0) _ K14.out rfl rfl (by rw [S_c_105]; rfl) ?_; simp only [Act.put, List.setIfInBounds_toArray, List.set_cons_zero, List.set_cons_succ])
          | (refine wpList_load_row rfl 68 _ rfl g15 rfl 68 (ucells c_107).toArray (0, 0) _ K15.out rfl rfl (by rw [S_c_107]; rfl) ?_; simp only [Act.put, List.setIfInBounds_toArray, List.set_cons_zero, List.set_cons_succ]))
        refine (nsub_calls n_105.out n_107.out).mono ?_
        rintro e u_ ⟨c_109, n_109, rfl, e1⟩
        obtain ⟨v_110, hv_110⟩ : ∃ v, v = subP v_106 v_108 := ⟨_, rfl⟩
        rw [← hv_110] at n_109
        replace hv_110 := Lib.hid (fun _ : Unit => hv_110)
        have S_c_109 := ucells_size n_109.len
        have O_c_109 := ucells_one c_109
        replace n_109 := Lib.hid n_109
        have a1 : Hid ((u_.alloc (Obj.cells (ucells zn).toArray 68)).heap[u_.heap.size]? = some (.cells (ucells zn).toArray 68 (0, 0))) := heap_alloc_new _ _
        have E_ : Ext w17_ ((u_.alloc (Obj.cells (ucells zn).toArray 68)).setRow u_.heap.size (ucells c_109).toArray) := e1.trans (below_setRow ((Ext.refl u_).alloc _) (Nat.le_refl _) _)
        go_upto_region 21 with (first
          | (refine wpList_store_row rfl 68 _ _ rfl u_.heap.size (ucells c_109).toArray rfl rfl 68 _ a1.out (by rw [S_c_109]; rfl) (by rw [S_c_109, S_zn]) O_c_109 ?_; simp only [Act.put]))
        obtain ⟨g16, hg_⟩ : ∃ g, g = u_.heap.size := ⟨_, rfl⟩
        have z16 : g9 < g16 := by rw [hg_]; exact Nat.lt_of_lt_of_le K9.out.lt e1.size
        refine wp_gen (fun W => Ur W g5 68 cx ∧ Ur W g6 68 c7 ∧ Ur W g7 68 c6 ∧ Ur W g8 68 c9 ∧ Ur W g9 68 c8 ∧ Ur W g12 68 c_101 ∧ Ur W g13 68 c_103 ∧ Ur W g14 68 c_105 ∧ Ur W g15 68 c_107 ∧ Ur W g16 68 c_109 ∧ Below g6 w5_ W) ⟨K5.out.kept E_ K5.out.lt,
            K6.out.kept E_ K6.out.lt,
            K7.out.kept E_ K7.out.lt,
            K8.out.kept E_ K8.out.lt,
            K9.out.kept E_ K9.out.lt,
            K12.out.kept E_ K12.out.lt,
            K13.out.kept E_ K13.out.lt,
            K14.out.kept E_ K14.out.lt,
            K15.out.kept E_ K15.out.lt,
            by rw [hg_]; exact setRow_heap _ _ _ _ _ _ a1.out,
            Below.trans KB.out (E_.mono (Nat.le_of_lt K6.out.lt))⟩ ?_
        rw [← hg_]
        clear K5 K6 K7 K8 K9 K12 K13 K14 K15 KB hg_ a1 E_ e1
        rintro w18_ ⟨K5, K6, K7, K8, K9, K12, K13, K14, K15, K16, KB⟩
        replace K5 := Lib.hid K5
        replace K6 := Lib.hid K6
        replace K7 := Lib.hid K7
        replace K8 := Lib.hid K8
        replace K9 := Lib.hid K9
        replace K12 := Lib.hid K12
        replace K13 := Lib.hid K13
        replace K14 := Lib.hid K14
        replace K15 := Lib.hid K15
        replace K16 := Lib.hid K16
        replace KB := Lib.hid KB
        have Q7 : Hid (∀ s, Ext w18_ s → Ur s g7 68 c6) := fun s e => K7.out.kept e K7.out.lt
        have Q9 : Hid (∀ s, Ext w18_ s → Ur s g9 68 c8) := fun s e => K9.out.kept e K9.out.lt
        have Q12 : Hid (∀ s, Ext w18_ s → Ur s g12 68 c_101) := fun s e => K12.out.kept e K12.out.lt
        refine wp_region_free (R := Ext) Ext.refl (fun _ _ _ => Ext.trans) [0, 1, 2, 3, 4, 5] [6] [0, 0, 3, 0, 15, 0, 63] [true, true, true, true, true, true, false] [(0, 57, 256), (0, 58, 1024), (3, 59, 432345564227567616), (0, 60, 8192), (12, 61, 1729382256910270464), (0, 18, 0), (63, 0, 2305843009213956096)] (by kernel_rfl) (by kernel_rfl) (by kernel_rfl) (by kernel_rfl) ?_
        refine free_det (fun _ => Ext.refl _) _ rfl (v := .agg (ucells c6).toArray) (d := 57) rfl rfl ?_ ?_
        · intro a_ w_ hev hR hk
          have e7 : a_.eval (.tmp 7) = _ := hk 7 rfl
          exact (exec_load_row rfl e7 (Q7.out w_ (Ext.trans (Ext.refl _).drew hR)) rfl rfl (by rw [S_c6]; rfl))
        refine free_det (fun _ => Ext.refl _) _ rfl (v := .agg (ucells c8).toArray) (d := 58) rfl rfl ?_ ?_
        · intro a_ w_ hev hR hk
          have e9 : a_.eval (.tmp 9) = _ := hk 9 rfl
          exact (exec_load_row rfl e9 (Q9.out w_ (Ext.trans (Ext.refl _).drew hR)) rfl rfl (by rw [S_c8]; rfl))
        refine free_step _ rfl (fun u _ => ∃ es, u = .agg (ucells es).toArray ∧ IsN es (subP va vc)) (d := 59) rfl (fun _ _ _ h _ => h) rfl ?_ ?_
        · intro a_ w_ hev hR hk K1 hK1
          have e56 : a_.eval (.tmp 56) = _ := hk 56 rfl
          have e57 : a_.eval (.tmp 57) = _ := hk 57 rfl
          clear hk
          have f56 := ev_get.trans e56
          have f57 := ev_get.trans e57
          go_simp
          refine (nsub_calls n6.out n8.out).mono ?_
          rintro e_ w2_ ⟨fs_, hf_, rfl, x_⟩
          exact hK1.out _ _ x_ ⟨fs_, rfl, hf_⟩
        refine free_det (fun _ => Ext.refl _) _ rfl (v := .agg (ucells c_101).toArray) (d := 60) rfl rfl ?_ ?_
        · intro a_ w_ hev hR hk
          have e12 : a_.eval (.tmp 12) = _ := hk 12 rfl
          exact (exec_load_row rfl e12 (Q12.out w_ (Ext.trans (Ext.refl _).drew hR)) rfl rfl (by rw [S_c_101]; rfl))
        refine free_step _ rfl (fun u _ => ∃ es, u = .agg (ucells es).toArray ∧ IsN es (mulP (subP va vc) v_102)) (d := 61) rfl (fun _ _ _ h _ => h) rfl ?_ ?_
        · intro a_ w_ hev hR hk K1 hK1
          obtain ⟨es_58, e58, n58⟩ : ∃ es, a_.eval (.tmp 58) = .agg (ucells es).toArray ∧ IsN es _ := hk 58 rfl
          have e59 : a_.eval (.tmp 59) = _ := hk 59 rfl
          clear hk
          have f58 := ev_get.trans e58
          have f59 := ev_get.trans e59
          go_simp
          refine (nmul_calls n58 n_101.out).mono ?_
          rintro e_ w2_ ⟨fs_, hf_, rfl, x_⟩
          exact hK1.out _ _ x_ ⟨fs_, rfl, hf_⟩
        refine free_new _ rfl (fun u w_ => ∃ g, u = .pointer (some ⟨g, 0, none⟩) ∧ w18_.drew.heap.size ≤ g ∧ w_.heap[g]? = some (.cells (ucells zn).toArray 68 (0, 0))) (d := 18) rfl (fun _ _ _ h e => by obtain ⟨g, h1, h2, h3⟩ := h; exact ⟨g, h1, h2, (e.block g (heap_lt h3)).trans h3⟩) rfl (by decide) (fun _ _ h => by obtain ⟨g, h1, h2, h3⟩ := h; subst h1; exact ⟨g, rfl, heap_lt h3⟩) ?_ ?_
        · intro a_ w_ hev hR hk K1 hK1
          go_simp
          exact hK1.out _ _ ((Ext.refl _).alloc _) ⟨_, rfl, hR.size, heap_alloc_new _ _⟩ (fun _ q => by cases q; exact Nat.le_refl _)
        intro v_ wq_ hR hV_ hN_
        obtain ⟨hv5, hv4, hv3, hv2, hv1, hv0, _⟩ := hV_
        replace hv0 : v_ 0 = _ := hv0
        replace hv1 : v_ 1 = _ := hv1
        skip
        replace hv3 : v_ 3 = _ := hv3
        skip
        skip
        dsimp only [putE, dOpt]
        obtain ⟨es_2, hv2, hn_2⟩ := hv2
        obtain ⟨es_4, hv4, hn_4⟩ := hv4
        obtain ⟨g_5, hv5, gb_5, gc_5⟩ := hv5
        clear hN_
        rw [hv0, hv1, hv2, hv3, hv4, hv5]
        simp only [Act.put, List.setIfInBounds_toArray, List.set_cons_zero, List.set_cons_succ]
        clear hv0 hv1 hv2 hv3 hv4 hv5
        generalize es_4 = c_111 at *
        have n_111 := hn_4
        clear hn_2 hn_4
        obtain ⟨v_112, hv_112⟩ : ∃ v, v = mulP (subP va vc) v_102 := ⟨_, rfl⟩
        rw [← hv_112] at n_111
        replace hv_112 := Lib.hid (fun _ : Unit => hv_112)
        have S_c_111 := ucells_size n_111.len
        have O_c_111 := ucells_one c_111
        replace n_111 := Lib.hid n_111
        refine any_more (z := 6) _ rfl rfl (by kernel_rfl) ?_
        intro K1 hK1
        refine wp_store_row _ _ _ rfl g_5 (ucells c_111).toArray rfl rfl 68 (ucells zn).toArray gc_5 (by rw [S_c_111]; rfl) (by rw [S_c_111, S_zn]) O_c_111 ?_
        refine hK1.out _ _ ?_
        clear hK1 K1
        refine any_nil (by kernel_rfl) ?_
        have z17 : g9 < g_5 := Nat.lt_of_lt_of_le K9.out.lt gb_5
        have E_ : Ext w18_ (wq_.setRow g_5 (ucells c_111).toArray) := below_setRow ((Ext.refl w18_).drew.trans hR) gb_5 _
        refine gen_q (fun W => Ur W g5 68 cx ∧ Ur W g6 68 c7 ∧ Ur W g7 68 c6 ∧ Ur W g8 68 c9 ∧ Ur W g9 68 c8 ∧ Ur W g12 68 c_101 ∧ Ur W g13 68 c_103 ∧ Ur W g14 68 c_105 ∧ Ur W g15 68 c_107 ∧ Ur W g16 68 c_109 ∧ Ur W g_5 68 c_111 ∧ Below g6 w5_ W) ⟨K5.out.kept E_ K5.out.lt,
            K6.out.kept E_ K6.out.lt,
            K7.out.kept E_ K7.out.lt,
            K8.out.kept E_ K8.out.lt,
            K9.out.kept E_ K9.out.lt,
            K12.out.kept E_ K12.out.lt,
            K13.out.kept E_ K13.out.lt,
            K14.out.kept E_ K14.out.lt,
            K15.out.kept E_ K15.out.lt,
            K16.out.kept E_ K16.out.lt,
            setRow_heap _ _ _ _ _ _ gc_5,
            Below.trans KB.out (E_.mono (Nat.le_of_lt K6.out.lt))⟩ ?_
        clear K5 K6 K7 K8 K9 K12 K13 K14 K15 K16 KB E_ hR gc_5 gb_5 Q7 Q9 Q12
        rintro w19_ ⟨K5, K6, K7, K8, K9, K12, K13, K14, K15, K16, K17, KB⟩
        replace K5 := Lib.hid K5
        replace K6 := Lib.hid K6
        replace K7 := Lib.hid K7
        replace K8 := Lib.hid K8
        replace K9 := Lib.hid K9
        replace K12 := Lib.hid K12
        replace K13 := Lib.hid K13
        replace K14 := Lib.hid K14
        replace K15 := Lib.hid K15
        replace K16 := Lib.hid K16
        replace K17 := Lib.hid K17
        replace KB := Lib.hid KB
        generalize g_5 = g17 at *
        go_upto_region 22 with fail
        have Q7 : Hid (∀ s, Ext w19_ s → Ur s g7 68 c6) := fun s e => K7.out.kept e K7.out.lt
        have Q9 : Hid (∀ s, Ext w19_ s → Ur s g9 68 c8) := fun s e => K9.out.kept e K9.out.lt
        have Q13 : Hid (∀ s, Ext w19_ s → Ur s g13 68 c_103) := fun s e => K13.out.kept e K13.out.lt
        refine wp_region_free (R := Ext) Ext.refl (fun _ _ _ => Ext.trans) [0, 1, 2, 3, 4, 5] [6] [0, 0, 3, 0, 15, 0, 63] [true, true, true, true, true, true, false] [(0, 62, 256), (0, 63, 1024), (3, 64, 13835058055282163712), (0, 65, 16384), (12, 66, 55340232221128654848), (0, 19, 0), (63, 0, 73786976294838730752)] (by kernel_rfl) (by kernel_rfl) (by kernel_rfl) (by kernel_rfl) ?_
        refine free_det (fun _ => Ext.refl _) _ rfl (v := .agg (ucells c6).toArray) (d := 62) rfl rfl ?_ ?_
        · intro a_ w_ hev hR hk
          have e7 : a_.eval (.tmp 7) = _ := hk 7 rfl
          exact (exec_load_row rfl e7 (Q7.out w_ (Ext.trans (Ext.refl _).drew hR)) rfl rfl (by rw [S_c6]; rfl))
        refine free_det (fun _ => Ext.refl _) _ rfl (v := .agg (ucells c8).toArray) (d := 63) rfl rfl ?_ ?_
        · intro a_ w_ hev hR hk
          have e9 : a_.eval (.tmp 9) = _ := hk 9 rfl
          exact (exec_load_row rfl e9 (Q9.out w_ (Ext.trans (Ext.refl _).drew hR)) rfl rfl (by rw [S_c8]; rfl))
        refine free_step _ rfl (fun u _ => ∃ es, u = .agg (ucells es).toArray ∧ IsN es (addP va vc)) (d := 64) rfl (fun _ _ _ h _ => h) rfl ?_ ?_
        · intro a_ w_ hev hR hk K1 hK1
          have e61 : a_.eval (.tmp 61) = _ := hk 61 rfl
          have e62 : a_.eval (.tmp 62) = _ := hk 62 rfl
          clear hk
          have f61 := ev_get.trans e61
          have f62 := ev_get.trans e62
          go_simp
          refine (nadd_calls n6.out n8.out).mono ?_
          rintro e_ w2_ ⟨fs_, hf_, rfl, x_⟩
          exact hK1.out _ _ x_ ⟨fs_, rfl, hf_⟩
        refine free_det (fun _ => Ext.refl _) _ rfl (v := .agg (ucells c_103).toArray) (d := 65) rfl rfl ?_ ?_
        · intro a_ w_ hev hR hk
          have e13 : a_.eval (.tmp 13) = _ := hk 13 rfl
          exact (exec_load_row rfl e13 (Q13.out w_ (Ext.trans (Ext.refl _).drew hR)) rfl rfl (by rw [S_c_103]; rfl))
        refine free_step _ rfl (fun u _ => ∃ es, u = .agg (ucells es).toArray ∧ IsN es (mulP (addP va vc) v_104)) (d := 66) rfl (fun _ _ _ h _ => h) rfl ?_ ?_
        · intro a_ w_ hev hR hk K1 hK1
          obtain ⟨es_63, e63, n63⟩ : ∃ es, a_.eval (.tmp 63) = .agg (ucells es).toArray ∧ IsN es _ := hk 63 rfl
          have e64 : a_.eval (.tmp 64) = _ := hk 64 rfl
          clear hk
          have f63 := ev_get.trans e63
          have f64 := ev_get.trans e64
          go_simp
          refine (nmul_calls n63 n_103.out).mono ?_
          rintro e_ w2_ ⟨fs_, hf_, rfl, x_⟩
          exact hK1.out _ _ x_ ⟨fs_, rfl, hf_⟩
        refine free_new _ rfl (fun u w_ => ∃ g, u = .pointer (some ⟨g, 0, none⟩) ∧ w19_.drew.heap.size ≤ g ∧ w_.heap[g]? = some (.cells (ucells zn).toArray 68 (0, 0))) (d := 19) rfl (fun _ _ _ h e => by obtain ⟨g, h1, h2, h3⟩ := h; exact ⟨g, h1, h2, (e.block g (heap_lt h3)).trans h3⟩) rfl (by decide) (fun _ _ h => by obtain ⟨g, h1, h2, h3⟩ := h; subst h1; exact ⟨g, rfl, heap_lt h3⟩) ?_ ?_
        · intro a_ w_ hev hR hk K1 hK1
          go_simp
          exact hK1.out _ _ ((Ext.refl _).alloc _) ⟨_, rfl, hR.size, heap_alloc_new _ _⟩ (fun _ q => by cases q; exact Nat.le_refl _)
        intro v_ wq_ hR hV_ hN_
        obtain ⟨hv5, hv4, hv3, hv2, hv1, hv0, _⟩ := hV_
        replace hv0 : v_ 0 = _ := hv0
        replace hv1 : v_ 1 = _ := hv1
        skip
        replace hv3 : v_ 3 = _ := hv3
        skip
        skip
        dsimp only [putE, dOpt]
        obtain ⟨es_2, hv2, hn_2⟩ := hv2
        obtain ⟨es_4, hv4, hn_4⟩ := hv4
        obtain ⟨g_5, hv5, gb_5, gc_5⟩ := hv5
        clear hN_
        rw [hv0, hv1, hv2, hv3, hv4, hv5]
        simp only [Act.put, List.setIfInBounds_toArray, List.set_cons_zero, List.set_cons_succ]
        clear hv0 hv1 hv2 hv3 hv4 hv5
        generalize es_4 = c_113 at *
        have n_113 := hn_4
        clear hn_2 hn_4
        obtain ⟨v_114, hv_114⟩ : ∃ v, v = mulP (addP va vc) v_104 := ⟨_, rfl⟩
        rw [← hv_114] at n_113
        replace hv_114 := Lib.hid (fun _ : Unit => hv_114)
        have S_c_113 := ucells_size n_113.len
        have O_c_113 := ucells_one c_113
        replace n_113 := Lib.hid n_113
        refine any_more (z := 6) _ rfl rfl (by kernel_rfl) ?_
        intro K1 hK1
        refine wp_store_row _ _ _ rfl g_5 (ucells c_113).toArray rfl rfl 68 (ucells zn).toArray gc_5 (by rw [S_c_113]; rfl) (by rw [S_c_113, S_zn]) O_c_113 ?_
        refine hK1.out _ _ ?_
        clear hK1 K1
        refine any_nil (by kernel_rfl) ?_
        have z18 : g9 < g_5 := Nat.lt_of_lt_of_le K9.out.lt gb_5
        have E_ : Ext w19_ (wq_.setRow g_5 (ucells c_113).toArray) := below_setRow ((Ext.refl w19_).drew.trans hR) gb_5 _
        refine gen_q (fun W => Ur W g5 68 cx ∧ Ur W g6 68 c7 ∧ Ur W g7 68 c6 ∧ Ur W g8 68 c9 ∧ Ur W g9 68 c8 ∧ Ur W g12 68 c_101 ∧ Ur W g13 68 c_103 ∧ Ur W g14 68 c_105 ∧ Ur W g15 68 c_107 ∧ Ur W g16 68 c_109 ∧ Ur W g17 68 c_111 ∧ Ur W g_5 68 c_113 ∧ Below g6 w5_ W) ⟨K5.out.kept E_ K5.out.lt,
            K6.out.kept E_ K6.out.lt,
            K7.out.kept E_ K7.out.lt,
            K8.out.kept E_ K8.out.lt,
            K9.out.kept E_ K9.out.lt,
            K12.out.kept E_ K12.out.lt,
            K13.out.kept E_ K13.out.lt,
            K14.out.kept E_ K14.out.lt,
            K15.out.kept E_ K15.out.lt,
            K16.out.kept E_ K16.out.lt,
            K17.out.kept E_ K17.out.lt,
            setRow_heap _ _ _ _ _ _ gc_5,
            Below.trans KB.out (E_.mono (Nat.le_of_lt K6.out.lt))⟩ ?_
        clear K5 K6 K7 K8 K9 K12 K13 K14 K15 K16 K17 KB E_ hR gc_5 gb_5 Q7 Q9 Q13
        rintro w20_ ⟨K5, K6, K7, K8, K9, K12, K13, K14, K15, K16, K17, K18, KB⟩
        replace K5 := Lib.hid K5
        replace K6 := Lib.hid K6
        replace K7 := Lib.hid K7
        replace K8 := Lib.hid K8
        replace K9 := Lib.hid K9
        replace K12 := Lib.hid K12
        replace K13 := Lib.hid K13
        replace K14 := Lib.hid K14
        replace K15 := Lib.hid K15
        replace K16 := Lib.hid K16
        replace K17 := Lib.hid K17
        replace K18 := Lib.hid K18
        replace KB := Lib.hid KB
        generalize g_5 = g18 at *
        clear K12
        clear K13
        go_wp2_with (first
          | (refine wpList_load_row rfl 68 _ rfl g17 rfl 68 (ucells c_111).toArray (0, 0) _ K17.out rfl rfl (by rw [S_c_111]; rfl) ?_; simp only [Act.put, List.setIfInBounds_toArray, List.set_cons_zero, List.set_cons_succ])
          | (refine wpList_load_row rfl 68 _ rfl g18 rfl 68 (ucells c_113).toArray (0, 0) _ K18.out rfl rfl (by rw [S_c_113]; rfl) ?_; simp only [Act.put, List.setIfInBounds_toArray, List.set_cons_zero, List.set_cons_succ]))
        refine (nadd_calls n_111.out n_113.out).mono ?_
        rintro e u_ ⟨c_115, n_115, rfl, e1⟩
        obtain ⟨v_116, hv_116⟩ : ∃ v, v = addP v_112 v_114 := ⟨_, rfl⟩
        rw [← hv_116] at n_115
        replace hv_116 := Lib.hid (fun _ : Unit => hv_116)
        have S_c_115 := ucells_size n_115.len
        have O_c_115 := ucells_one c_115
        replace n_115 := Lib.hid n_115
        have a1 : Hid ((u_.alloc (Obj.cells (ucells zn).toArray 68)).heap[u_.heap.size]? = some (.cells (ucells zn).toArray 68 (0, 0))) := heap_alloc_new _ _
        have E_ : Ext w20_ ((u_.alloc (Obj.cells (ucells zn).toArray 68)).setRow u_.heap.size (ucells c_115).toArray) := e1.trans (below_setRow ((Ext.refl u_).alloc _) (Nat.le_refl _) _)
        go_upto_region 24 with (first
          | (refine wpList_store_row rfl 68 _ _ rfl u_.heap.size (ucells c_115).toArray rfl rfl 68 _ a1.out (by rw [S_c_115]; rfl) (by rw [S_c_115, S_zn]) O_c_115 ?_; simp only [Act.put]))
        obtain ⟨g19, hg_⟩ : ∃ g, g = u_.heap.size := ⟨_, rfl⟩
        have z19 : g9 < g19 := by rw [hg_]; exact Nat.lt_of_lt_of_le K9.out.lt e1.size
        refine wp_gen (fun W => Ur W g5 68 cx ∧ Ur W g6 68 c7 ∧ Ur W g7 68 c6 ∧ Ur W g8 68 c9 ∧ Ur W g9 68 c8 ∧ Ur W g14 68 c_105 ∧ Ur W g15 68 c_107 ∧ Ur W g16 68 c_109 ∧ Ur W g17 68 c_111 ∧ Ur W g18 68 c_113 ∧ Ur W g19 68 c_115 ∧ Below g6 w5_ W) ⟨K5.out.kept E_ K5.out.lt,
            K6.out.kept E_ K6.out.lt,
            K7.out.kept E_ K7.out.lt,
            K8.out.kept E_ K8.out.lt,
            K9.out.kept E_ K9.out.lt,
            K14.out.kept E_ K14.out.lt,
            K15.out.kept E_ K15.out.lt,
            K16.out.kept E_ K16.out.lt,
            K17.out.kept E_ K17.out.lt,
            K18.out.kept E_ K18.out.lt,
            by rw [hg_]; exact setRow_heap _ _ _ _ _ _ a1.out,
            Below.trans KB.out (E_.mono (Nat.le_of_lt K6.out.lt))⟩ ?_
        rw [← hg_]
        clear K5 K6 K7 K8 K9 K14 K15 K16 K17 K18 KB hg_ a1 E_ e1
        rintro w21_ ⟨K5, K6, K7, K8, K9, K14, K15, K16, K17, K18, K19, KB⟩
        replace K5 := Lib.hid K5
        replace K6 := Lib.hid K6
        replace K7 := Lib.hid K7
        replace K8 := Lib.hid K8
        replace K9 := Lib.hid K9
        replace K14 := Lib.hid K14
        replace K15 := Lib.hid K15
        replace K16 := Lib.hid K16
        replace K17 := Lib.hid K17
        replace K18 := Lib.hid K18
        replace K19 := Lib.hid K19
        replace KB := Lib.hid KB
        go_wp2_with (first
          | (refine wpList_load_row rfl 68 _ rfl g17 rfl 68 (ucells c_111).toArray (0, 0) _ K17.out rfl rfl (by rw [S_c_111]; rfl) ?_; simp only [Act.put, List.setIfInBounds_toArray, List.set_cons_zero, List.set_cons_succ])
          | (refine wpList_load_row rfl 68 _ rfl g18 rfl 68 (ucells c_113).toArray (0, 0) _ K18.out rfl rfl (by rw [S_c_113]; rfl) ?_; simp only [Act.put, List.setIfInBounds_toArray, List.set_cons_zero, List.set_cons_succ]))
        refine (nsub_calls n_111.out n_113.out).mono ?_
        rintro e u_ ⟨c_117, n_117, rfl, e1⟩
        obtain ⟨v_118, hv_118⟩ : ∃ v, v = subP v_112 v_114 := ⟨_, rfl⟩
        rw [← hv_118] at n_117
        replace hv_118 := Lib.hid (fun _ : Unit => hv_118)
        have S_c_117 := ucells_size n_117.len
        have O_c_117 := ucells_one c_117
        replace n_117 := Lib.hid n_117
        have a1 : Hid ((u_.alloc (Obj.cells (ucells zn).toArray 68)).heap[u_.heap.size]? = some (.cells (ucells zn).toArray 68 (0, 0))) := heap_alloc_new _ _
        have E_ : Ext w21_ ((u_.alloc (Obj.cells (ucells zn).toArray 68)).setRow u_.heap.size (ucells c_117).toArray) := e1.trans (below_setRow ((Ext.refl u_).alloc _) (Nat.le_refl _) _)
        go_upto_region 25 with (first
          | (refine wpList_store_row rfl 68 _ _ rfl u_.heap.size (ucells c_117).toArray rfl rfl 68 _ a1.out (by rw [S_c_117]; rfl) (by rw [S_c_117, S_zn]) O_c_117 ?_; simp only [Act.put]))
        obtain ⟨g20, hg_⟩ : ∃ g, g = u_.heap.size := ⟨_, rfl⟩
        have z20 : g9 < g20 := by rw [hg_]; exact Nat.lt_of_lt_of_le K9.out.lt e1.size
        refine wp_gen (fun W => Ur W g5 68 cx ∧ Ur W g6 68 c7 ∧ Ur W g7 68 c6 ∧ Ur W g8 68 c9 ∧ Ur W g9 68 c8 ∧ Ur W g14 68 c_105 ∧ Ur W g15 68 c_107 ∧ Ur W g16 68 c_109 ∧ Ur W g17 68 c_111 ∧ Ur W g18 68 c_113 ∧ Ur W g19 68 c_115 ∧ Ur W g20 68 c_117 ∧ Below g6 w5_ W) ⟨K5.out.kept E_ K5.out.lt,
            K6.out.kept E_ K6.out.lt,
            K7.out.kept E_ K7.out.lt,
            K8.out.kept E_ K8.out.lt,
            K9.out.kept E_ K9.out.lt,
            K14.out.kept E_ K14.out.lt,
            K15.out.kept E_ K15.out.lt,
            K16.out.kept E_ K16.out.lt,
            K17.out.kept E_ K17.out.lt,
            K18.out.kept E_ K18.out.lt,
            K19.out.kept E_ K19.out.lt,
            by rw [hg_]; exact setRow_heap _ _ _ _ _ _ a1.out,
            Below.trans KB.out (E_.mono (Nat.le_of_lt K6.out.lt))⟩ ?_
        rw [← hg_]
        clear K5 K6 K7 K8 K9 K14 K15 K16 K17 K18 K19 KB hg_ a1 E_ e1
        rintro w22_ ⟨K5, K6, K7, K8, K9, K14, K15, K16, K17, K18, K19, K20, KB⟩
        replace K5 := Lib.hid K5
        replace K6 := Lib.hid K6
        replace K7 := Lib.hid K7
        replace K8 := Lib.hid K8
        replace K9 := Lib.hid K9
        replace K14 := Lib.hid K14
        replace K15 := Lib.hid K15
        replace K16 := Lib.hid K16
        replace K17 := Lib.hid K17
        replace K18 := Lib.hid K18
        replace K19 := Lib.hid K19
        replace K20 := Lib.hid K20
        replace KB := Lib.hid KB
        clear K17
        clear K18
        go_wp2_with (first
          | (refine wpList_load_row rfl 68 _ rfl g19 rfl 68 (ucells c_115).toArray (0, 0) _ K19.out rfl rfl (by rw [S_c_115]; rfl) ?_; simp only [Act.put, List.setIfInBounds_toArray, List.set_cons_zero, List.set_cons_succ]))
        refine (nmul_calls n_115.out n_115.out).mono ?_
        rintro e u_ ⟨c_119, n_119, rfl, e1⟩
        obtain ⟨v_120, hv_120⟩ : ∃ v, v = mulP v_116 v_116 := ⟨_, rfl⟩
        rw [← hv_120] at n_119
        replace hv_120 := Lib.hid (fun _ : Unit => hv_120)
        have S_c_119 := ucells_size n_119.len
        have O_c_119 := ucells_one c_119
        replace n_119 := Lib.hid n_119
        have mK5 := Lib.hid (K5.out.kept e1 K5.out.lt)
        have mK6 := Lib.hid (K6.out.kept e1 K6.out.lt)
        have mK7 := Lib.hid (K7.out.kept e1 K7.out.lt)
        have mK8 := Lib.hid (K8.out.kept e1 K8.out.lt)
        have mK9 := Lib.hid (K9.out.kept e1 K9.out.lt)
        have mK14 := Lib.hid (K14.out.kept e1 K14.out.lt)
        have mK15 := Lib.hid (K15.out.kept e1 K15.out.lt)
        have mK16 := Lib.hid (K16.out.kept e1 K16.out.lt)
        have mK19 := Lib.hid (K19.out.kept e1 K19.out.lt)
        have mK20 := Lib.hid (K20.out.kept e1 K20.out.lt)
        have mKB := Lib.hid (Below.trans KB.out (e1.mono (Nat.le_of_lt K6.out.lt)))
        go_upto_region 26 with (first
          | (refine wpList_store_row rfl 68 _ _ rfl g7 (ucells c_119).toArray rfl rfl 68 _ mK7.out (by rw [S_c_119]; rfl) (by rw [S_c_119, S_c6]) O_c_119 ?_; simp only [Act.put]))
        refine wp_gen (fun W => Ur W g5 68 cx ∧ Ur W g6 68 c7 ∧ Ur W g7 68 c_119 ∧ Ur W g8 68 c9 ∧ Ur W g9 68 c8 ∧ Ur W g14 68 c_105 ∧ Ur W g15 68 c_107 ∧ Ur W g16 68 c_109 ∧ Ur W g19 68 c_115 ∧ Ur W g20 68 c_117 ∧ Below g6 w5_ W) ⟨(setRow_other _ _ _ _ (by omega)).trans mK5.out,
            (setRow_other _ _ _ _ (by omega)).trans mK6.out,
            setRow_heap _ _ _ _ _ _ mK7.out,
            (setRow_other _ _ _ _ (by omega)).trans mK8.out,
            (setRow_other _ _ _ _ (by omega)).trans mK9.out,
            (setRow_other _ _ _ _ (by omega)).trans mK14.out,
            (setRow_other _ _ _ _ (by omega)).trans mK15.out,
            (setRow_other _ _ _ _ (by omega)).trans mK16.out,
            (setRow_other _ _ _ _ (by omega)).trans mK19.out,
            (setRow_other _ _ _ _ (by omega)).trans mK20.out,
            below_setRow mKB.out (by omega) _⟩ ?_
        clear K5 K6 K7 K8 K9 K14 K15 K16 K19 K20 KB e1 mK5 mK6 mK7 mK8 mK9 mK14 mK15 mK16 mK19 mK20 mKB
        rintro w23_ ⟨K5, K6, K7, K8, K9, K14, K15, K16, K19, K20, KB⟩
        replace K5 := Lib.hid K5
        replace K6 := Lib.hid K6
        replace K7 := Lib.hid K7
        replace K8 := Lib.hid K8
        replace K9 := Lib.hid K9
        replace K14 := Lib.hid K14
        replace K15 := Lib.hid K15
        replace K16 := Lib.hid K16
        replace K19 := Lib.hid K19
        replace K20 := Lib.hid K20
        replace KB := Lib.hid KB
        clear K19
        have Q5 : Hid (∀ s, Ext w23_ s → Ur s g5 68 cx) := fun s e => K5.out.kept e K5.out.lt
        have Q20 : Hid (∀ s, Ext w23_ s → Ur s g20 68 c_117) := fun s e => K20.out.kept e K20.out.lt
        refine wp_region_free (R := Ext) Ext.refl (fun _ _ _ => Ext.trans) [0, 1, 2, 3, 4] [5] [0, 0, 0, 6, 15, 31] [true, true, true, true, true, false] [(0, 76, 64), (0, 77, 2097152), (0, 78, 2097152), (6, 79, 453347182355485940514816), (9, 80, 680020773533228910772224), (31, 0, 1208925819614629174707200)] (by kernel_rfl) (by kernel_rfl) (by kernel_rfl) (by kernel_rfl) ?_
        refine free_det (fun _ => Ext.refl _) _ rfl (v := .agg (ucells cx).toArray) (d := 76) rfl rfl ?_ ?_
        · intro a_ w_ hev hR hk
          have e5 : a_.eval (.tmp 5) = _ := hk 5 rfl
          exact (exec_load_row rfl e5 (Q5.out w_ (Ext.trans (Ext.refl _).drew hR)) rfl rfl (by rw [S_cx]; rfl))
        refine free_det (fun _ => Ext.refl _) _ rfl (v := .agg (ucells c_117).toArray) (d := 77) rfl rfl ?_ ?_
        · intro a_ w_ hev hR hk
          have e20 : a_.eval (.tmp 20) = _ := hk 20 rfl
          exact (exec_load_row rfl e20 (Q20.out w_ (Ext.trans (Ext.refl _).drew hR)) rfl rfl (by rw [S_c_117]; rfl))
        refine free_det (fun _ => Ext.refl _) _ rfl (v := .agg (ucells c_117).toArray) (d := 78) rfl rfl ?_ ?_
        · intro a_ w_ hev hR hk
          have e20 : a_.eval (.tmp 20) = _ := hk 20 rfl
          exact (exec_load_row rfl e20 (Q20.out w_ (Ext.trans (Ext.refl _).drew hR)) rfl rfl (by rw [S_c_117]; rfl))
        refine free_step _ rfl (fun u _ => ∃ es, u = .agg (ucells es).toArray ∧ IsN es (mulP v_118 v_118)) (d := 79) rfl (fun _ _ _ h _ => h) rfl ?_ ?_
        · intro a_ w_ hev hR hk K1 hK1
          have e76 : a_.eval (.tmp 76) = _ := hk 76 rfl
          have e77 : a_.eval (.tmp 77) = _ := hk 77 rfl
          clear hk
          have f76 := ev_get.trans e76
          have f77 := ev_get.trans e77
          go_simp
          refine (nmul_calls n_117.out n_117.out).mono ?_
          rintro e_ w2_ ⟨fs_, hf_, rfl, x_⟩
          exact hK1.out _ _ x_ ⟨fs_, rfl, hf_⟩
        refine free_step _ rfl (fun u _ => ∃ es, u = .agg (ucells es).toArray ∧ IsN es (mulP x (mulP v_118 v_118))) (d := 80) rfl (fun _ _ _ h _ => h) rfl ?_ ?_
        · intro a_ w_ hev hR hk K1 hK1
          have e75 : a_.eval (.tmp 75) = _ := hk 75 rfl
          obtain ⟨es_78, e78, n78⟩ : ∃ es, a_.eval (.tmp 78) = .agg (ucells es).toArray ∧ IsN es _ := hk 78 rfl
          clear hk
          have f75 := ev_get.trans e75
          have f78 := ev_get.trans e78
          go_simp
          refine (nmul_calls n_cx.out n78).mono ?_
          rintro e_ w2_ ⟨fs_, hf_, rfl, x_⟩
          exact hK1.out _ _ x_ ⟨fs_, rfl, hf_⟩
        intro v_ wq_ hR hV_ hN_
        obtain ⟨hv4, hv3, hv2, hv1, hv0, _⟩ := hV_
        replace hv0 : v_ 0 = _ := hv0
        replace hv1 : v_ 1 = _ := hv1
        replace hv2 : v_ 2 = _ := hv2
        skip
        skip
        dsimp only [putE, dOpt]
        obtain ⟨es_3, hv3, hn_3⟩ := hv3
        obtain ⟨es_4, hv4, hn_4⟩ := hv4
        clear hN_
        rw [hv0, hv1, hv2, hv3, hv4]
        simp only [Act.put, List.setIfInBounds_toArray, List.set_cons_zero, List.set_cons_succ]
        clear hv0 hv1 hv2 hv3 hv4
        generalize es_4 = c_121 at *
        have n_121 := hn_4
        clear hn_3 hn_4
        obtain ⟨v_122, hv_122⟩ : ∃ v, v = mulP x (mulP v_118 v_118) := ⟨_, rfl⟩
        rw [← hv_122] at n_121
        replace hv_122 := Lib.hid (fun _ : Unit => hv_122)
        have S_c_121 := ucells_size n_121.len
        have O_c_121 := ucells_one c_121
        replace n_121 := Lib.hid n_121
        have mm_ := Lib.hid (K9.out.kept ((Ext.refl w23_).drew.trans hR) K9.out.lt)
        refine any_more (z := 5) _ rfl rfl (by kernel_rfl) ?_
        intro K1 hK1
        refine wp_store_row _ _ _ rfl g9 (ucells c_121).toArray rfl rfl 68 (ucells c8).toArray mm_.out (by rw [S_c_121]; rfl) (by rw [S_c_121, S_c8]) O_c_121 ?_
        refine hK1.out _ _ ?_
        clear hK1 K1
        refine any_nil (by kernel_rfl) ?_
        have mK5 := Lib.hid (K5.out.kept ((Ext.refl w23_).drew.trans hR) K5.out.lt)
        have mK6 := Lib.hid (K6.out.kept ((Ext.refl w23_).drew.trans hR) K6.out.lt)
        have mK7 := Lib.hid (K7.out.kept ((Ext.refl w23_).drew.trans hR) K7.out.lt)
        have mK8 := Lib.hid (K8.out.kept ((Ext.refl w23_).drew.trans hR) K8.out.lt)
        have mK9 := Lib.hid (K9.out.kept ((Ext.refl w23_).drew.trans hR) K9.out.lt)
        have mK14 := Lib.hid (K14.out.kept ((Ext.refl w23_).drew.trans hR) K14.out.lt)
        have mK15 := Lib.hid (K15.out.kept ((Ext.refl w23_).drew.trans hR) K15.out.lt)
        have mK16 := Lib.hid (K16.out.kept ((Ext.refl w23_).drew.trans hR) K16.out.lt)
        have mK20 := Lib.hid (K20.out.kept ((Ext.refl w23_).drew.trans hR) K20.out.lt)
        have mKB := Lib.hid (Below.trans KB.out (((Ext.refl w23_).drew.trans hR).mono (Nat.le_of_lt K6.out.lt)))
        refine gen_q (fun W => Ur W g5 68 cx ∧ Ur W g6 68 c7 ∧ Ur W g7 68 c_119 ∧ Ur W g8 68 c9 ∧ Ur W g9 68 c_121 ∧ Ur W g14 68 c_105 ∧ Ur W g15 68 c_107 ∧ Ur W g16 68 c_109 ∧ Ur W g20 68 c_117 ∧ Below g6 w5_ W) ⟨(setRow_other _ _ _ _ (by omega)).trans mK5.out,
            (setRow_other _ _ _ _ (by omega)).trans mK6.out,
            (setRow_other _ _ _ _ (by omega)).trans mK7.out,
            (setRow_other _ _ _ _ (by omega)).trans mK8.out,
            setRow_heap _ _ _ _ _ _ mK9.out,
            (setRow_other _ _ _ _ (by omega)).trans mK14.out,
            (setRow_other _ _ _ _ (by omega)).trans mK15.out,
            (setRow_other _ _ _ _ (by omega)).trans mK16.out,
            (setRow_other _ _ _ _ (by omega)).trans mK20.out,
            below_setRow mKB.out (by omega) _⟩ ?_
        clear K5 K6 K7 K8 K9 K14 K15 K16 K20 KB mm_ hR mK5 mK6 mK7 mK8 mK9 mK14 mK15 mK16 mK20 mKB Q5 Q20
        rintro w24_ ⟨K5, K6, K7, K8, K9, K14, K15, K16, K20, KB⟩
        replace K5 := Lib.hid K5
        replace K6 := Lib.hid K6
        replace K7 := Lib.hid K7
        replace K8 := Lib.hid K8
        replace K9 := Lib.hid K9
        replace K14 := Lib.hid K14
        replace K15 := Lib.hid K15
        replace K16 := Lib.hid K16
        replace K20 := Lib.hid K20
        replace KB := Lib.hid KB
        clear K20
        go_wp2_with (first
          | (refine wpList_load_row rfl 68 _ rfl g14 rfl 68 (ucells c_105).toArray (0, 0) _ K14.out rfl rfl (by rw [S_c_105]; rfl) ?_; simp only [Act.put, List.setIfInBounds_toArray, List.set_cons_zero, List.set_cons_succ])
          | (refine wpList_load_row rfl 68 _ rfl g15 rfl 68 (ucells c_107).toArray (0, 0) _ K15.out rfl rfl (by rw [S_c_107]; rfl) ?_; simp only [Act.put, List.setIfInBounds_toArray, List.set_cons_zero, List.set_cons_succ]))
        refine (nmul_calls n_105.out n_107.out).mono ?_
        rintro e u_ ⟨c_123, n_123, rfl, e1⟩
        obtain ⟨v_124, hv_124⟩ : ∃ v, v = mulP v_106 v_108 := ⟨_, rfl⟩
        rw [← hv_124] at n_123
        replace hv_124 := Lib.hid (fun _ : Unit => hv_124)
        have S_c_123 := ucells_size n_123.len
        have O_c_123 := ucells_one c_123
        replace n_123 := Lib.hid n_123
        have mK5 := Lib.hid (K5.out.kept e1 K5.out.lt)
        have mK6 := Lib.hid (K6.out.kept e1 K6.out.lt)
        have mK7 := Lib.hid (K7.out.kept e1 K7.out.lt)
        have mK8 := Lib.hid (K8.out.kept e1 K8.out.lt)
        have mK9 := Lib.hid (K9.out.kept e1 K9.out.lt)
        have mK14 := Lib.hid (K14.out.kept e1 K14.out.lt)
        have mK15 := Lib.hid (K15.out.kept e1 K15.out.lt)
        have mK16 := Lib.hid (K16.out.kept e1 K16.out.lt)
        have mKB := Lib.hid (Below.trans KB.out (e1.mono (Nat.le_of_lt K6.out.lt)))
        go_upto_region 28 with (first
          | (refine wpList_store_row rfl 68 _ _ rfl g6 (ucells c_123).toArray rfl rfl 68 _ mK6.out (by rw [S_c_123]; rfl) (by rw [S_c_123, S_c7]) O_c_123 ?_; simp only [Act.put]))
        refine wp_gen (fun W => Ur W g5 68 cx ∧ Ur W g6 68 c_123 ∧ Ur W g7 68 c_119 ∧ Ur W g8 68 c9 ∧ Ur W g9 68 c_121 ∧ Ur W g14 68 c_105 ∧ Ur W g15 68 c_107 ∧ Ur W g16 68 c_109 ∧ Below g6 w5_ W) ⟨(setRow_other _ _ _ _ (by omega)).trans mK5.out,
            setRow_heap _ _ _ _ _ _ mK6.out,
            (setRow_other _ _ _ _ (by omega)).trans mK7.out,
            (setRow_other _ _ _ _ (by omega)).trans mK8.out,
            (setRow_other _ _ _ _ (by omega)).trans mK9.out,
            (setRow_other _ _ _ _ (by omega)).trans mK14.out,
            (setRow_other _ _ _ _ (by omega)).trans mK15.out,
            (setRow_other _ _ _ _ (by omega)).trans mK16.out,
            below_setRow mKB.out (by omega) _⟩ ?_
        clear K5 K6 K7 K8 K9 K14 K15 K16 KB e1 mK5 mK6 mK7 mK8 mK9 mK14 mK15 mK16 mKB
        rintro w25_ ⟨K5, K6, K7, K8, K9, K14, K15, K16, KB⟩
        replace K5 := Lib.hid K5
        replace K6 := Lib.hid K6
        replace K7 := Lib.hid K7
        replace K8 := Lib.hid K8
        replace K9 := Lib.hid K9
        replace K14 := Lib.hid K14
        replace K15 := Lib.hid K15
        replace K16 := Lib.hid K16
        replace KB := Lib.hid KB
        clear K15
        have Q14 : Hid (∀ s, Ext w25_ s → Ur s g14 68 c_105) := fun s e => K14.out.kept e K14.out.lt
        have Q16 : Hid (∀ s, Ext w25_ s → Ur s g16 68 c_109) := fun s e => K16.out.kept e K16.out.lt
        refine wp_region_free (R := Ext) Ext.refl (fun _ _ _ => Ext.trans) [0, 1, 2, 3, 4, 5, 6] [7] [0, 0, 0, 0, 12, 30, 63, 127] [true, true, true, true, true, true, true, false] [(0, 84, 131072), (0, 85, 32768), (0, 86, 0), (0, 87, 131072), (12, 88, 232113757366008801543585792), (18, 89, 348170636049013202315378688), (33, 90, 638312832756524204244860928), (127, 0, 1237940039285380274899124736)] (by kernel_rfl) (by kernel_rfl) (by kernel_rfl) (by kernel_rfl) ?_
        refine free_det (fun _ => Ext.refl _) _ rfl (v := .agg (ucells c_109).toArray) (d := 84) rfl rfl ?_ ?_
        · intro a_ w_ hev hR hk
          have e16 : a_.eval (.tmp 16) = _ := hk 16 rfl
          exact (exec_load_row rfl e16 (Q16.out w_ (Ext.trans (Ext.refl _).drew hR)) rfl rfl (by rw [S_c_109]; rfl))
        refine free_det (fun _ => Ext.refl _) _ rfl (v := .agg (ucells c_105).toArray) (d := 85) rfl rfl ?_ ?_
        · intro a_ w_ hev hR hk
          have e14 : a_.eval (.tmp 14) = _ := hk 14 rfl
          exact (exec_load_row rfl e14 (Q14.out w_ (Ext.trans (Ext.refl _).drew hR)) rfl rfl (by rw [S_c_105]; rfl))
        refine free_det (fun _ => Ext.refl _) _ rfl (v := .agg (ucells fw).toArray) (d := 86) rfl rfl ?_ ?_
        · intro a_ w_ hev hR hk
          exact (exec_build_as rfl (by simp only [List.map_toArray, List.map_cons, List.map_nil, hev.1]; exact hbf.out))
        refine free_det (fun _ => Ext.refl _) _ rfl (v := .agg (ucells c_109).toArray) (d := 87) rfl rfl ?_ ?_
        · intro a_ w_ hev hR hk
          have e16 : a_.eval (.tmp 16) = _ := hk 16 rfl
          exact (exec_load_row rfl e16 (Q16.out w_ (Ext.trans (Ext.refl _).drew hR)) rfl rfl (by rw [S_c_109]; rfl))
        refine free_step _ rfl (fun u _ => ∃ es, u = .agg (ucells es).toArray ∧ IsN es (mulP 121665 v_110)) (d := 88) rfl (fun _ _ _ h _ => h) rfl ?_ ?_
        · intro a_ w_ hev hR hk K1 hK1
          have e85 : a_.eval (.tmp 85) = _ := hk 85 rfl
          have e86 : a_.eval (.tmp 86) = _ := hk 86 rfl
          clear hk
          have f85 := ev_get.trans e85
          have f86 := ev_get.trans e86
          go_simp
          refine (nmul_calls n_fw.out n_109.out).mono ?_
          rintro e_ w2_ ⟨fs_, hf_, rfl, x_⟩
          exact hK1.out _ _ x_ ⟨fs_, rfl, hf_⟩
        refine free_step _ rfl (fun u _ => ∃ es, u = .agg (ucells es).toArray ∧ IsN es (addP v_106 (mulP 121665 v_110))) (d := 89) rfl (fun _ _ _ h _ => h) rfl ?_ ?_
        · intro a_ w_ hev hR hk K1 hK1
          have e84 : a_.eval (.tmp 84) = _ := hk 84 rfl
          obtain ⟨es_87, e87, n87⟩ : ∃ es, a_.eval (.tmp 87) = .agg (ucells es).toArray ∧ IsN es _ := hk 87 rfl
          clear hk
          have f84 := ev_get.trans e84
          have f87 := ev_get.trans e87
          go_simp
          refine (nadd_calls n_105.out n87).mono ?_
          rintro e_ w2_ ⟨fs_, hf_, rfl, x_⟩
          exact hK1.out _ _ x_ ⟨fs_, rfl, hf_⟩
        refine free_step _ rfl (fun u _ => ∃ es, u = .agg (ucells es).toArray ∧ IsN es (mulP v_110 (addP v_106 (mulP 121665 v_110)))) (d := 90) rfl (fun _ _ _ h _ => h) rfl ?_ ?_
        · intro a_ w_ hev hR hk K1 hK1
          have e83 : a_.eval (.tmp 83) = _ := hk 83 rfl
          obtain ⟨es_88, e88, n88⟩ : ∃ es, a_.eval (.tmp 88) = .agg (ucells es).toArray ∧ IsN es _ := hk 88 rfl
          clear hk
          have f83 := ev_get.trans e83
          have f88 := ev_get.trans e88
          go_simp
          refine (nmul_calls n_109.out n88).mono ?_
          rintro e_ w2_ ⟨fs_, hf_, rfl, x_⟩
          exact hK1.out _ _ x_ ⟨fs_, rfl, hf_⟩
        intro v_ wq_ hR hV_ hN_
        obtain ⟨hv6, hv5, hv4, hv3, hv2, hv1, hv0, _⟩ := hV_
        replace hv0 : v_ 0 = _ := hv0
        replace hv1 : v_ 1 = _ := hv1
        replace hv2 : v_ 2 = _ := hv2
        replace hv3 : v_ 3 = _ := hv3
        skip
        skip
        skip
        dsimp only [putE, dOpt]
        obtain ⟨es_4, hv4, hn_4⟩ := hv4
        obtain ⟨es_5, hv5, hn_5⟩ := hv5
        obtain ⟨es_6, hv6, hn_6⟩ := hv6
        clear hN_
        rw [hv0, hv1, hv2, hv3, hv4, hv5, hv6]
        simp only [Act.put, List.setIfInBounds_toArray, List.set_cons_zero, List.set_cons_succ]
        clear hv0 hv1 hv2 hv3 hv4 hv5 hv6
        generalize es_6 = c_125 at *
        have n_125 := hn_6
        clear hn_4 hn_5 hn_6
        obtain ⟨v_126, hv_126⟩ : ∃ v, v = mulP v_110 (addP v_106 (mulP 121665 v_110)) := ⟨_, rfl⟩
        rw [← hv_126] at n_125
        replace hv_126 := Lib.hid (fun _ : Unit => hv_126)
        have S_c_125 := ucells_size n_125.len
        have O_c_125 := ucells_one c_125
        replace n_125 := Lib.hid n_125
        have mm_ := Lib.hid (K8.out.kept ((Ext.refl w25_).drew.trans hR) K8.out.lt)
        refine any_more (z := 7) _ rfl rfl (by kernel_rfl) ?_
        intro K1 hK1
        refine wp_store_row _ _ _ rfl g8 (ucells c_125).toArray rfl rfl 68 (ucells c9).toArray mm_.out (by rw [S_c_125]; rfl) (by rw [S_c_125, S_c9]) O_c_125 ?_
        refine hK1.out _ _ ?_
        clear hK1 K1
        refine any_nil (by kernel_rfl) ?_
        have mK5 := Lib.hid (K5.out.kept ((Ext.refl w25_).drew.trans hR) K5.out.lt)
        have mK6 := Lib.hid (K6.out.kept ((Ext.refl w25_).drew.trans hR) K6.out.lt)
        have mK7 := Lib.hid (K7.out.kept ((Ext.refl w25_).drew.trans hR) K7.out.lt)
        have mK8 := Lib.hid (K8.out.kept ((Ext.refl w25_).drew.trans hR) K8.out.lt)
        have mK9 := Lib.hid (K9.out.kept ((Ext.refl w25_).drew.trans hR) K9.out.lt)
        have mK14 := Lib.hid (K14.out.kept ((Ext.refl w25_).drew.trans hR) K14.out.lt)
        have mK16 := Lib.hid (K16.out.kept ((Ext.refl w25_).drew.trans hR) K16.out.lt)
        have mKB := Lib.hid (Below.trans KB.out (((Ext.refl w25_).drew.trans hR).mono (Nat.le_of_lt K6.out.lt)))
        refine gen_q (fun W => Ur W g5 68 cx ∧ Ur W g6 68 c_123 ∧ Ur W g7 68 c_119 ∧ Ur W g8 68 c_125 ∧ Ur W g9 68 c_121 ∧ Ur W g14 68 c_105 ∧ Ur W g16 68 c_109 ∧ Below g6 w5_ W) ⟨(setRow_other _ _ _ _ (by omega)).trans mK5.out,
            (setRow_other _ _ _ _ (by omega)).trans mK6.out,
            (setRow_other _ _ _ _ (by omega)).trans mK7.out,
            setRow_heap _ _ _ _ _ _ mK8.out,
            (setRow_other _ _ _ _ (by omega)).trans mK9.out,
            (setRow_other _ _ _ _ (by omega)).trans mK14.out,
            (setRow_other _ _ _ _ (by omega)).trans mK16.out,
            below_setRow mKB.out (by omega) _⟩ ?_
        clear K5 K6 K7 K8 K9 K14 K16 KB mm_ hR mK5 mK6 mK7 mK8 mK9 mK14 mK16 mKB Q14 Q16
        rintro w26_ ⟨K5, K6, K7, K8, K9, K14, K16, KB⟩
        replace K5 := Lib.hid K5
        replace K6 := Lib.hid K6
        replace K7 := Lib.hid K7
        replace K8 := Lib.hid K8
        replace K9 := Lib.hid K9
        replace K14 := Lib.hid K14
        replace K16 := Lib.hid K16
        replace KB := Lib.hid KB
        clear K14
        clear K16
        have KX := Lib.hid (P3.out _ KB.out).1
        go_wp2_with (refine wpList_load_row rfl 23 _ rfl w.heap.size rfl 23 (cellsOf ks).toArray (0, 0) _ KX.out.1 rfl rfl (by rw [S_ks]; rfl) ?_; simp only [Act.put, List.setIfInBounds_toArray, List.set_cons_zero, List.set_cons_succ])
        refine (BT.out _).mono ?_
        rintro e u_ ⟨rfl, e1⟩
        go_upto_region 30 with fail
        refine wp_gen (fun W => Ur W g5 68 cx ∧ Ur W g6 68 c_123 ∧ Ur W g7 68 c_119 ∧ Ur W g8 68 c_125 ∧ Ur W g9 68 c_121 ∧ Below g6 w5_ W) ⟨K5.out.kept e1 K5.out.lt,
            K6.out.kept e1 K6.out.lt,
            K7.out.kept e1 K7.out.lt,
            K8.out.kept e1 K8.out.lt,
            K9.out.kept e1 K9.out.lt,
            Below.trans KB.out (e1.mono (Nat.le_of_lt K6.out.lt))⟩ ?_
        clear K5 K6 K7 K8 K9 KB KX e1
        rintro w27_ ⟨K5, K6, K7, K8, K9, KB⟩
        replace K5 := Lib.hid K5
        replace K6 := Lib.hid K6
        replace K7 := Lib.hid K7
        replace K8 := Lib.hid K8
        replace K9 := Lib.hid K9
        replace KB := Lib.hid KB
        have a1 : Hid ((w27_.alloc (Obj.cells (ucells zn).toArray 68)).heap[w27_.heap.size]? = some (.cells (ucells zn).toArray 68 (0, 0))) := heap_alloc_new _ _
        have E_ : Ext w27_ ((w27_.alloc (Obj.cells (ucells zn).toArray 68)).setRow w27_.heap.size (ucells c_123).toArray) := below_setRow ((Ext.refl w27_).alloc _) (Nat.le_refl _) _
        go_upto_region 31 with (first
          | (refine wpList_load_row rfl 68 _ rfl g6 rfl 68 (ucells c_123).toArray (0, 0) _ K6.out rfl rfl (by rw [S_c_123]; rfl) ?_; simp only [Act.put, List.setIfInBounds_toArray, List.set_cons_zero, List.set_cons_succ])
          | (refine wpList_store_row rfl 68 _ _ rfl w27_.heap.size (ucells c_123).toArray rfl rfl 68 _ a1.out (by rw [S_c_123]; rfl) (by rw [S_c_123, S_zn]) O_c_123 ?_; simp only [Act.put]))
        obtain ⟨g21, hg_⟩ : ∃ g, g = w27_.heap.size := ⟨_, rfl⟩
        have z21 : g9 < g21 := by rw [hg_]; exact K9.out.lt
        refine wp_gen (fun W => Ur W g5 68 cx ∧ Ur W g6 68 c_123 ∧ Ur W g7 68 c_119 ∧ Ur W g8 68 c_125 ∧ Ur W g9 68 c_121 ∧ Ur W g21 68 c_123 ∧ Below g6 w5_ W) ⟨K5.out.kept E_ K5.out.lt,
            K6.out.kept E_ K6.out.lt,
            K7.out.kept E_ K7.out.lt,
            K8.out.kept E_ K8.out.lt,
            K9.out.kept E_ K9.out.lt,
            by rw [hg_]; exact setRow_heap _ _ _ _ _ _ a1.out,
            Below.trans KB.out (E_.mono (Nat.le_of_lt K6.out.lt))⟩ ?_
        rw [← hg_]
        clear K5 K6 K7 K8 K9 KB hg_ a1 E_
        rintro w28_ ⟨K5, K6, K7, K8, K9, K21, KB⟩
        replace K5 := Lib.hid K5
        replace K6 := Lib.hid K6
        replace K7 := Lib.hid K7
        replace K8 := Lib.hid K8
        replace K9 := Lib.hid K9
        replace K21 := Lib.hid K21
        replace KB := Lib.hid KB
        go_upto_region 32 with (first
          | (refine wpList_load_row rfl 68 _ rfl g7 rfl 68 (ucells c_119).toArray (0, 0) _ K7.out rfl rfl (by rw [S_c_119]; rfl) ?_; simp only [Act.put, List.setIfInBounds_toArray, List.set_cons_zero, List.set_cons_succ])
          | (refine wpList_store_row rfl 68 _ _ rfl g6 (ucells c_119).toArray rfl rfl 68 _ K6.out (by rw [S_c_119]; rfl) (by rw [S_c_119, S_c_123]) O_c_119 ?_; simp only [Act.put]))
        refine wp_gen (fun W => Ur W g5 68 cx ∧ Ur W g6 68 c_119 ∧ Ur W g7 68 c_119 ∧ Ur W g8 68 c_125 ∧ Ur W g9 68 c_121 ∧ Ur W g21 68 c_123 ∧ Below g6 w5_ W) ⟨(setRow_other _ _ _ _ (by omega)).trans K5.out,
            setRow_heap _ _ _ _ _ _ K6.out,
            (setRow_other _ _ _ _ (by omega)).trans K7.out,
            (setRow_other _ _ _ _ (by omega)).trans K8.out,
            (setRow_other _ _ _ _ (by omega)).trans K9.out,
            (setRow_other _ _ _ _ (by omega)).trans K21.out,
            below_setRow KB.out (by omega) _⟩ ?_
        clear K5 K6 K7 K8 K9 K21 KB
        rintro w29_ ⟨K5, K6, K7, K8, K9, K21, KB⟩
        replace K5 := Lib.hid K5
        replace K6 := Lib.hid K6
        replace K7 := Lib.hid K7
        replace K8 := Lib.hid K8
        replace K9 := Lib.hid K9
        replace K21 := Lib.hid K21
        replace KB := Lib.hid KB
        go_upto_region 33 with (first
          | (refine wpList_load_row rfl 68 _ rfl g21 rfl 68 (ucells c_123).toArray (0, 0) _ K21.out rfl rfl (by rw [S_c_123]; rfl) ?_; simp only [Act.put, List.setIfInBounds_toArray, List.set_cons_zero, List.set_cons_succ])
          | (refine wpList_store_row rfl 68 _ _ rfl g7 (ucells c_123).toArray rfl rfl 68 _ K7.out (by rw [S_c_123]; rfl) (by rw [S_c_123, S_c_119]) O_c_123 ?_; simp only [Act.put]))
        refine wp_gen (fun W => Ur W g5 68 cx ∧ Ur W g6 68 c_119 ∧ Ur W g7 68 c_123 ∧ Ur W g8 68 c_125 ∧ Ur W g9 68 c_121 ∧ Ur W g21 68 c_123 ∧ Below g6 w5_ W) ⟨(setRow_other _ _ _ _ (by omega)).trans K5.out,
            (setRow_other _ _ _ _ (by omega)).trans K6.out,
            setRow_heap _ _ _ _ _ _ K7.out,
            (setRow_other _ _ _ _ (by omega)).trans K8.out,
            (setRow_other _ _ _ _ (by omega)).trans K9.out,
            (setRow_other _ _ _ _ (by omega)).trans K21.out,
            below_setRow KB.out (by omega) _⟩ ?_
        clear K5 K6 K7 K8 K9 K21 KB
        rintro w30_ ⟨K5, K6, K7, K8, K9, K21, KB⟩
        replace K5 := Lib.hid K5
        replace K6 := Lib.hid K6
        replace K7 := Lib.hid K7
        replace K8 := Lib.hid K8
        replace K9 := Lib.hid K9
        replace K21 := Lib.hid K21
        replace KB := Lib.hid KB
        go_upto_region 34 with (first
          | (refine wpList_load_row rfl 68 _ rfl g8 rfl 68 (ucells c_125).toArray (0, 0) _ K8.out rfl rfl (by rw [S_c_125]; rfl) ?_; simp only [Act.put, List.setIfInBounds_toArray, List.set_cons_zero, List.set_cons_succ])
          | (refine wpList_store_row rfl 68 _ _ rfl g21 (ucells c_125).toArray rfl rfl 68 _ K21.out (by rw [S_c_125]; rfl) (by rw [S_c_125, S_c_123]) O_c_125 ?_; simp only [Act.put]))
        refine wp_gen (fun W => Ur W g5 68 cx ∧ Ur W g6 68 c_119 ∧ Ur W g7 68 c_123 ∧ Ur W g8 68 c_125 ∧ Ur W g9 68 c_121 ∧ Ur W g21 68 c_125 ∧ Below g6 w5_ W) ⟨(setRow_other _ _ _ _ (by omega)).trans K5.out,
            (setRow_other _ _ _ _ (by omega)).trans K6.out,
            (setRow_other _ _ _ _ (by omega)).trans K7.out,
            (setRow_other _ _ _ _ (by omega)).trans K8.out,
            (setRow_other _ _ _ _ (by omega)).trans K9.out,
            setRow_heap _ _ _ _ _ _ K21.out,
            below_setRow KB.out (by omega) _⟩ ?_
        clear K5 K6 K7 K8 K9 K21 KB
        rintro w31_ ⟨K5, K6, K7, K8, K9, K21, KB⟩
        replace K5 := Lib.hid K5
        replace K6 := Lib.hid K6
        replace K7 := Lib.hid K7
        replace K8 := Lib.hid K8
        replace K9 := Lib.hid K9
        replace K21 := Lib.hid K21
        replace KB := Lib.hid KB
        go_upto_region 35 with (first
          | (refine wpList_load_row rfl 68 _ rfl g9 rfl 68 (ucells c_121).toArray (0, 0) _ K9.out rfl rfl (by rw [S_c_121]; rfl) ?_; simp only [Act.put, List.setIfInBounds_toArray, List.set_cons_zero, List.set_cons_succ])
          | (refine wpList_store_row rfl 68 _ _ rfl g8 (ucells c_121).toArray rfl rfl 68 _ K8.out (by rw [S_c_121]; rfl) (by rw [S_c_121, S_c_125]) O_c_121 ?_; simp only [Act.put]))
        refine wp_gen (fun W => Ur W g5 68 cx ∧ Ur W g6 68 c_119 ∧ Ur W g7 68 c_123 ∧ Ur W g8 68 c_121 ∧ Ur W g9 68 c_121 ∧ Ur W g21 68 c_125 ∧ Below g6 w5_ W) ⟨(setRow_other _ _ _ _ (by omega)).trans K5.out,
            (setRow_other _ _ _ _ (by omega)).trans K6.out,
            (setRow_other _ _ _ _ (by omega)).trans K7.out,
            setRow_heap _ _ _ _ _ _ K8.out,
            (setRow_other _ _ _ _ (by omega)).trans K9.out,
            (setRow_other _ _ _ _ (by omega)).trans K21.out,
            below_setRow KB.out (by omega) _⟩ ?_
        clear K5 K6 K7 K8 K9 K21 KB
        rintro w32_ ⟨K5, K6, K7, K8, K9, K21, KB⟩
        replace K5 := Lib.hid K5
        replace K6 := Lib.hid K6
        replace K7 := Lib.hid K7
        replace K8 := Lib.hid K8
        replace K9 := Lib.hid K9
        replace K21 := Lib.hid K21
        replace KB := Lib.hid KB
        go_wp2_with (first
          | (refine wpList_load_row rfl 68 _ rfl g21 rfl 68 (ucells c_125).toArray (0, 0) _ K21.out rfl rfl (by rw [S_c_125]; rfl) ?_; simp only [Act.put, List.setIfInBounds_toArray, List.set_cons_zero, List.set_cons_succ])
          | (refine wpList_store_row rfl 68 _ _ rfl g9 (ucells c_125).toArray rfl rfl 68 _ K9.out (by rw [S_c_125]; rfl) (by rw [S_c_125, S_c_121]) O_c_125 ?_; simp only [Act.put]))
        have NX : S (m + 1) = (v_120, v_124, v_122, v_126) := by
          rw [S1m.out ()]
          replace hv_102 := hv_102.out ()
          replace hv_104 := hv_104.out ()
          replace hv_106 := hv_106.out ()
          replace hv_108 := hv_108.out ()
          replace hv_110 := hv_110.out ()
          replace hv_112 := hv_112.out ()
          replace hv_114 := hv_114.out ()
          replace hv_116 := hv_116.out ()
          replace hv_118 := hv_118.out ()
          replace hv_120 := hv_120.out ()
          replace hv_122 := hv_122.out ()
          replace hv_124 := hv_124.out ()
          replace hv_126 := hv_126.out ()
          subst hv_126 hv_124 hv_122 hv_120 hv_118 hv_116 hv_114 hv_112 hv_110 hv_108 hv_106 hv_104 hv_102
          rw [mulP_sq x]
          rfl
        exact ⟨⟨m + 1, c_119, c_123, c_121, c_125, hm1.out, by rw [← hbn1.out], (setRow_other _ _ _ _ (by omega)).trans K6.out,
            (setRow_other _ _ _ _ (by omega)).trans K7.out,
            (setRow_other _ _ _ _ (by omega)).trans K8.out,
            setRow_heap _ _ _ _ _ _ K9.out, by rw [NX]; exact n_119.out, by rw [NX]; exact n_123.out, by rw [NX]; exact n_121.out, by rw [NX]; exact n_125.out, below_setRow KB.out (by omega) _⟩, by simp [intOf]; omega⟩
      · rw [hbt] at BT S1m
        clear hbt
        have KX := Lib.hid (P3.out _ KB.out).1
        go_wp2_with (refine wpList_load_row rfl 23 _ rfl w.heap.size rfl 23 (cellsOf ks).toArray (0, 0) _ KX.out.1 rfl rfl (by rw [S_ks]; rfl) ?_; simp only [Act.put, List.setIfInBounds_toArray, List.set_cons_zero, List.set_cons_succ])
        refine (BT.out _).mono ?_
        rintro e u_ ⟨rfl, e1⟩
        go_upto_region 16 with fail
        refine wp_gen (fun W => Ur W g5 68 cx ∧ Ur W g6 68 c6 ∧ Ur W g7 68 c7 ∧ Ur W g8 68 c8 ∧ Ur W g9 68 c9 ∧ Below g6 w5_ W) ⟨K5.out.kept e1 K5.out.lt,
            K6.out.kept e1 K6.out.lt,
            K7.out.kept e1 K7.out.lt,
            K8.out.kept e1 K8.out.lt,
            K9.out.kept e1 K9.out.lt,
            Below.trans KB.out (e1.mono (Nat.le_of_lt K6.out.lt))⟩ ?_
        clear K5 K6 K7 K8 K9 KB KX e1
        rintro w7_ ⟨K5, K6, K7, K8, K9, KB⟩
        replace K5 := Lib.hid K5
        replace K6 := Lib.hid K6
        replace K7 := Lib.hid K7
        replace K8 := Lib.hid K8
        replace K9 := Lib.hid K9
        replace KB := Lib.hid KB
        go_wp2_with (first
          | (refine wpList_load_row rfl 68 _ rfl g6 rfl 68 (ucells c6).toArray (0, 0) _ K6.out rfl rfl (by rw [S_c6]; rfl) ?_; simp only [Act.put, List.setIfInBounds_toArray, List.set_cons_zero, List.set_cons_succ])
          | (refine wpList_load_row rfl 68 _ rfl g8 rfl 68 (ucells c8).toArray (0, 0) _ K8.out rfl rfl (by rw [S_c8]; rfl) ?_; simp only [Act.put, List.setIfInBounds_toArray, List.set_cons_zero, List.set_cons_succ]))
        refine (nadd_calls n6.out n8.out).mono ?_
        rintro e u_ ⟨c_201, n_201, rfl, e1⟩
        obtain ⟨v_202, hv_202⟩ : ∃ v, v = addP va vc := ⟨_, rfl⟩
        rw [← hv_202] at n_201
        replace hv_202 := Lib.hid (fun _ : Unit => hv_202)
        have S_c_201 := ucells_size n_201.len
        have O_c_201 := ucells_one c_201
        replace n_201 := Lib.hid n_201
        have a1 : Hid ((u_.alloc (Obj.cells (ucells zn).toArray 68)).heap[u_.heap.size]? = some (.cells (ucells zn).toArray 68 (0, 0))) := heap_alloc_new _ _
        have E_ : Ext w7_ ((u_.alloc (Obj.cells (ucells zn).toArray 68)).setRow u_.heap.size (ucells c_201).toArray) := e1.trans (below_setRow ((Ext.refl u_).alloc _) (Nat.le_refl _) _)
        go_upto_region 17 with (first
          | (refine wpList_store_row rfl 68 _ _ rfl u_.heap.size (ucells c_201).toArray rfl rfl 68 _ a1.out (by rw [S_c_201]; rfl) (by rw [S_c_201, S_zn]) O_c_201 ?_; simp only [Act.put]))
        obtain ⟨g12, hg_⟩ : ∃ g, g = u_.heap.size := ⟨_, rfl⟩
        have z12 : g9 < g12 := by rw [hg_]; exact Nat.lt_of_lt_of_le K9.out.lt e1.size
        refine wp_gen (fun W => Ur W g5 68 cx ∧ Ur W g6 68 c6 ∧ Ur W g7 68 c7 ∧ Ur W g8 68 c8 ∧ Ur W g9 68 c9 ∧ Ur W g12 68 c_201 ∧ Below g6 w5_ W) ⟨K5.out.kept E_ K5.out.lt,
            K6.out.kept E_ K6.out.lt,
            K7.out.kept E_ K7.out.lt,
            K8.out.kept E_ K8.out.lt,
            K9.out.kept E_ K9.out.lt,
            by rw [hg_]; exact setRow_heap _ _ _ _ _ _ a1.out,
            Below.trans KB.out (E_.mono (Nat.le_of_lt K6.out.lt))⟩ ?_
        rw [← hg_]
        clear K5 K6 K7 K8 K9 KB hg_ a1 E_ e1
        rintro w8_ ⟨K5, K6, K7, K8, K9, K12, KB⟩
        replace K5 := Lib.hid K5
        replace K6 := Lib.hid K6
        replace K7 := Lib.hid K7
        replace K8 := Lib.hid K8
        replace K9 := Lib.hid K9
        replace K12 := Lib.hid K12
        replace KB := Lib.hid KB
        go_wp2_with (first
          | (refine wpList_load_row rfl 68 _ rfl g6 rfl 68 (ucells c6).toArray (0, 0) _ K6.out rfl rfl (by rw [S_c6]; rfl) ?_; simp only [Act.put, List.setIfInBounds_toArray, List.set_cons_zero, List.set_cons_succ])
          | (refine wpList_load_row rfl 68 _ rfl g8 rfl 68 (ucells c8).toArray (0, 0) _ K8.out rfl rfl (by rw [S_c8]; rfl) ?_; simp only [Act.put, List.setIfInBounds_toArray, List.set_cons_zero, List.set_cons_succ]))
        refine (nsub_calls n6.out n8.out).mono ?_
        rintro e u_ ⟨c_203, n_203, rfl, e1⟩
        obtain ⟨v_204, hv_204⟩ : ∃ v, v = subP va vc := ⟨_, rfl⟩
        rw [← hv_204] at n_203
        replace hv_204 := Lib.hid (fun _ : Unit => hv_204)
        have S_c_203 := ucells_size n_203.len
        have O_c_203 := ucells_one c_203
        replace n_203 := Lib.hid n_203
        have a1 : Hid ((u_.alloc (Obj.cells (ucells zn).toArray 68)).heap[u_.heap.size]? = some (.cells (ucells zn).toArray 68 (0, 0))) := heap_alloc_new _ _
        have E_ : Ext w8_ ((u_.alloc (Obj.cells (ucells zn).toArray 68)).setRow u_.heap.size (ucells c_203).toArray) := e1.trans (below_setRow ((Ext.refl u_).alloc _) (Nat.le_refl _) _)
        go_upto_region 18 with (first
          | (refine wpList_store_row rfl 68 _ _ rfl u_.heap.size (ucells c_203).toArray rfl rfl 68 _ a1.out (by rw [S_c_203]; rfl) (by rw [S_c_203, S_zn]) O_c_203 ?_; simp only [Act.put]))
        obtain ⟨g13, hg_⟩ : ∃ g, g = u_.heap.size := ⟨_, rfl⟩
        have z13 : g9 < g13 := by rw [hg_]; exact Nat.lt_of_lt_of_le K9.out.lt e1.size
        refine wp_gen (fun W => Ur W g5 68 cx ∧ Ur W g6 68 c6 ∧ Ur W g7 68 c7 ∧ Ur W g8 68 c8 ∧ Ur W g9 68 c9 ∧ Ur W g12 68 c_201 ∧ Ur W g13 68 c_203 ∧ Below g6 w5_ W) ⟨K5.out.kept E_ K5.out.lt,
            K6.out.kept E_ K6.out.lt,
            K7.out.kept E_ K7.out.lt,
            K8.out.kept E_ K8.out.lt,
            K9.out.kept E_ K9.out.lt,
            K12.out.kept E_ K12.out.lt,
            by rw [hg_]; exact setRow_heap _ _ _ _ _ _ a1.out,
            Below.trans KB.out (E_.mono (Nat.le_of_lt K6.out.lt))⟩ ?_
        rw [← hg_]
        clear K5 K6 K7 K8 K9 K12 KB hg_ a1 E_ e1
        rintro w9_ ⟨K5, K6, K7, K8, K9, K12, K13, KB⟩
        replace K5 := Lib.hid K5
        replace K6 := Lib.hid K6
        replace K7 := Lib.hid K7
        replace K8 := Lib.hid K8
        replace K9 := Lib.hid K9
        replace K12 := Lib.hid K12
        replace K13 := Lib.hid K13
        replace KB := Lib.hid KB
        go_wp2_with (first
          | (refine wpList_load_row rfl 68 _ rfl g12 rfl 68 (ucells c_201).toArray (0, 0) _ K12.out rfl rfl (by rw [S_c_201]; rfl) ?_; simp only [Act.put, List.setIfInBounds_toArray, List.set_cons_zero, List.set_cons_succ]))
        refine (nmul_calls n_201.out n_201.out).mono ?_
        rintro e u_ ⟨c_205, n_205, rfl, e1⟩
        obtain ⟨v_206, hv_206⟩ : ∃ v, v = mulP v_202 v_202 := ⟨_, rfl⟩
        rw [← hv_206] at n_205
        replace hv_206 := Lib.hid (fun _ : Unit => hv_206)
        have S_c_205 := ucells_size n_205.len
        have O_c_205 := ucells_one c_205
        replace n_205 := Lib.hid n_205
        have a1 : Hid ((u_.alloc (Obj.cells (ucells zn).toArray 68)).heap[u_.heap.size]? = some (.cells (ucells zn).toArray 68 (0, 0))) := heap_alloc_new _ _
        have E_ : Ext w9_ ((u_.alloc (Obj.cells (ucells zn).toArray 68)).setRow u_.heap.size (ucells c_205).toArray) := e1.trans (below_setRow ((Ext.refl u_).alloc _) (Nat.le_refl _) _)
        go_upto_region 19 with (first
          | (refine wpList_store_row rfl 68 _ _ rfl u_.heap.size (ucells c_205).toArray rfl rfl 68 _ a1.out (by rw [S_c_205]; rfl) (by rw [S_c_205, S_zn]) O_c_205 ?_; simp only [Act.put]))
        obtain ⟨g14, hg_⟩ : ∃ g, g = u_.heap.size := ⟨_, rfl⟩
        have z14 : g9 < g14 := by rw [hg_]; exact Nat.lt_of_lt_of_le K9.out.lt e1.size
        refine wp_gen (fun W => Ur W g5 68 cx ∧ Ur W g6 68 c6 ∧ Ur W g7 68 c7 ∧ Ur W g8 68 c8 ∧ Ur W g9 68 c9 ∧ Ur W g12 68 c_201 ∧ Ur W g13 68 c_203 ∧ Ur W g14 68 c_205 ∧ Below g6 w5_ W) ⟨K5.out.kept E_ K5.out.lt,
            K6.out.kept E_ K6.out.lt,
            K7.out.kept E_ K7.out.lt,
            K8.out.kept E_ K8.out.lt,
            K9.out.kept E_ K9.out.lt,
            K12.out.kept E_ K12.out.lt,
            K13.out.kept E_ K13.out.lt,
            by rw [hg_]; exact setRow_heap _ _ _ _ _ _ a1.out,
            Below.trans KB.out (E_.mono (Nat.le_of_lt K6.out.lt))⟩ ?_
        rw [← hg_]
        clear K5 K6 K7 K8 K9 K12 K13 KB hg_ a1 E_ e1
        rintro w10_ ⟨K5, K6, K7, K8, K9, K12, K13, K14, KB⟩
        replace K5 := Lib.hid K5
        replace K6 := Lib.hid K6
        replace K7 := Lib.hid K7
        replace K8 := Lib.hid K8
        replace K9 := Lib.hid K9
        replace K12 := Lib.hid K12
        replace K13 := Lib.hid K13
        replace K14 := Lib.hid K14
        replace KB := Lib.hid KB
        go_wp2_with (first
          | (refine wpList_load_row rfl 68 _ rfl g13 rfl 68 (ucells c_203).toArray (0, 0) _ K13.out rfl rfl (by rw [S_c_203]; rfl) ?_; simp only [Act.put, List.setIfInBounds_toArray, List.set_cons_zero, List.set_cons_succ]))
        refine (nmul_calls n_203.out n_203.out).mono ?_
        rintro e u_ ⟨c_207, n_207, rfl, e1⟩
        obtain ⟨v_208, hv_208⟩ : ∃ v, v = mulP v_204 v_204 := ⟨_, rfl⟩
        rw [← hv_208] at n_207
        replace hv_208 := Lib.hid (fun _ : Unit => hv_208)
        have S_c_207 := ucells_size n_207.len
        have O_c_207 := ucells_one c_207
        replace n_207 := Lib.hid n_207
        have a1 : Hid ((u_.alloc (Obj.cells (ucells zn).toArray 68)).heap[u_.heap.size]? = some (.cells (ucells zn).toArray 68 (0, 0))) := heap_alloc_new _ _
        have E_ : Ext w10_ ((u_.alloc (Obj.cells (ucells zn).toArray 68)).setRow u_.heap.size (ucells c_207).toArray) := e1.trans (below_setRow ((Ext.refl u_).alloc _) (Nat.le_refl _) _)
        go_upto_region 20 with (first
          | (refine wpList_store_row rfl 68 _ _ rfl u_.heap.size (ucells c_207).toArray rfl rfl 68 _ a1.out (by rw [S_c_207]; rfl) (by rw [S_c_207, S_zn]) O_c_207 ?_; simp only [Act.put]))
        obtain ⟨g15, hg_⟩ : ∃ g, g = u_.heap.size := ⟨_, rfl⟩
        have z15 : g9 < g15 := by rw [hg_]; exact Nat.lt_of_lt_of_le K9.out.lt e1.size
        refine wp_gen (fun W => Ur W g5 68 cx ∧ Ur W g6 68 c6 ∧ Ur W g7 68 c7 ∧ Ur W g8 68 c8 ∧ Ur W g9 68 c9 ∧ Ur W g12 68 c_201 ∧ Ur W g13 68 c_203 ∧ Ur W g14 68 c_205 ∧ Ur W g15 68 c_207 ∧ Below g6 w5_ W) ⟨K5.out.kept E_ K5.out.lt,
            K6.out.kept E_ K6.out.lt,
            K7.out.kept E_ K7.out.lt,
            K8.out.kept E_ K8.out.lt,
            K9.out.kept E_ K9.out.lt,
            K12.out.kept E_ K12.out.lt,
            K13.out.kept E_ K13.out.lt,
            K14.out.kept E_ K14.out.lt,
            by rw [hg_]; exact setRow_heap _ _ _ _ _ _ a1.out,
            Below.trans KB.out (E_.mono (Nat.le_of_lt K6.out.lt))⟩ ?_
        rw [← hg_]
        clear K5 K6 K7 K8 K9 K12 K13 K14 KB hg_ a1 E_ e1
        rintro w11_ ⟨K5, K6, K7, K8, K9, K12, K13, K14, K15, KB⟩
        replace K5 := Lib.hid K5
        replace K6 := Lib.hid K6
        replace K7 := Lib.hid K7
        replace K8 := Lib.hid K8
        replace K9 := Lib.hid K9
        replace K12 := Lib.hid K12
        replace K13 := Lib.hid K13
        replace K14 := Lib.hid K14
        replace K15 := Lib.hid K15
        replace KB := Lib.hid KB
        go_wp2_with (first
          | (refine wpList_load_row rfl 68 _ rfl g14 rfl 68 (ucells c_205).toArray (0, 0) _ K14.out rfl rfl (by rw [S_c_205]; rfl) ?_; simp only [Act.put, List.setIfInBounds_toArray, List.set_cons_zero, List.set_cons_succ])
          | (refine wpList_load_row rfl 68 _ rfl g15 rfl 68 (ucells c_207).toArray (0, 0) _ K15.out rfl rfl (by rw [S_c_207]; rfl) ?_; simp only [Act.put, List.setIfInBounds_toArray, List.set_cons_zero, List.set_cons_succ]))
        refine (nsub_calls n_205.out n_207.out).mono ?_
        rintro e u_ ⟨c_209, n_209, rfl, e1⟩
        obtain ⟨v_210, hv_210⟩ : ∃ v, v = subP v_206 v_208 := ⟨_, rfl⟩
        rw [← hv_210] at n_209
        replace hv_210 := Lib.hid (fun _ : Unit => hv_210)
        have S_c_209 := ucells_size n_209.len
        have O_c_209 := ucells_one c_209
        replace n_209 := Lib.hid n_209
        have a1 : Hid ((u_.alloc (Obj.cells (ucells zn).toArray 68)).heap[u_.heap.size]? = some (.cells (ucells zn).toArray 68 (0, 0))) := heap_alloc_new _ _
        have E_ : Ext w11_ ((u_.alloc (Obj.cells (ucells zn).toArray 68)).setRow u_.heap.size (ucells c_209).toArray) := e1.trans (below_setRow ((Ext.refl u_).alloc _) (Nat.le_refl _) _)
        go_upto_region 21 with (first
          | (refine wpList_store_row rfl 68 _ _ rfl u_.heap.size (ucells c_209).toArray rfl rfl 68 _ a1.out (by rw [S_c_209]; rfl) (by rw [S_c_209, S_zn]) O_c_209 ?_; simp only [Act.put]))
        obtain ⟨g16, hg_⟩ : ∃ g, g = u_.heap.size := ⟨_, rfl⟩
        have z16 : g9 < g16 := by rw [hg_]; exact Nat.lt_of_lt_of_le K9.out.lt e1.size
        refine wp_gen (fun W => Ur W g5 68 cx ∧ Ur W g6 68 c6 ∧ Ur W g7 68 c7 ∧ Ur W g8 68 c8 ∧ Ur W g9 68 c9 ∧ Ur W g12 68 c_201 ∧ Ur W g13 68 c_203 ∧ Ur W g14 68 c_205 ∧ Ur W g15 68 c_207 ∧ Ur W g16 68 c_209 ∧ Below g6 w5_ W) ⟨K5.out.kept E_ K5.out.lt,
            K6.out.kept E_ K6.out.lt,
            K7.out.kept E_ K7.out.lt,
            K8.out.kept E_ K8.out.lt,
            K9.out.kept E_ K9.out.lt,
            K12.out.kept E_ K12.out.lt,
            K13.out.kept E_ K13.out.lt,
            K14.out.kept E_ K14.out.lt,
            K15.out.kept E_ K15.out.lt,
            by rw [hg_]; exact setRow_heap _ _ _ _ _ _ a1.out,
            Below.trans KB.out (E_.mono (Nat.le_of_lt K6.out.lt))⟩ ?_
        rw [← hg_]
        clear K5 K6 K7 K8 K9 K12 K13 K14 K15 KB hg_ a1 E_ e1
        rintro w12_ ⟨K5, K6, K7, K8, K9, K12, K13, K14, K15, K16, KB⟩
        replace K5 := Lib.hid K5
        replace K6 := Lib.hid K6
        replace K7 := Lib.hid K7
        replace K8 := Lib.hid K8
        replace K9 := Lib.hid K9
        replace K12 := Lib.hid K12
        replace K13 := Lib.hid K13
        replace K14 := Lib.hid K14
        replace K15 := Lib.hid K15
        replace K16 := Lib.hid K16
        replace KB := Lib.hid KB
        have Q7 : Hid (∀ s, Ext w12_ s → Ur s g7 68 c7) := fun s e => K7.out.kept e K7.out.lt
        have Q9 : Hid (∀ s, Ext w12_ s → Ur s g9 68 c9) := fun s e => K9.out.kept e K9.out.lt
        have Q12 : Hid (∀ s, Ext w12_ s → Ur s g12 68 c_201) := fun s e => K12.out.kept e K12.out.lt
        refine wp_region_free (R := Ext) Ext.refl (fun _ _ _ => Ext.trans) [0, 1, 2, 3, 4, 5] [6] [0, 0, 3, 0, 15, 0, 63] [true, true, true, true, true, true, false] [(0, 57, 256), (0, 58, 1024), (3, 59, 432345564227567616), (0, 60, 8192), (12, 61, 1729382256910270464), (0, 18, 0), (63, 0, 2305843009213956096)] (by kernel_rfl) (by kernel_rfl) (by kernel_rfl) (by kernel_rfl) ?_
        refine free_det (fun _ => Ext.refl _) _ rfl (v := .agg (ucells c7).toArray) (d := 57) rfl rfl ?_ ?_
        · intro a_ w_ hev hR hk
          have e7 : a_.eval (.tmp 7) = _ := hk 7 rfl
          exact (exec_load_row rfl e7 (Q7.out w_ (Ext.trans (Ext.refl _).drew hR)) rfl rfl (by rw [S_c7]; rfl))
        refine free_det (fun _ => Ext.refl _) _ rfl (v := .agg (ucells c9).toArray) (d := 58) rfl rfl ?_ ?_
        · intro a_ w_ hev hR hk
          have e9 : a_.eval (.tmp 9) = _ := hk 9 rfl
          exact (exec_load_row rfl e9 (Q9.out w_ (Ext.trans (Ext.refl _).drew hR)) rfl rfl (by rw [S_c9]; rfl))
        refine free_step _ rfl (fun u _ => ∃ es, u = .agg (ucells es).toArray ∧ IsN es (subP vb vd)) (d := 59) rfl (fun _ _ _ h _ => h) rfl ?_ ?_
        · intro a_ w_ hev hR hk K1 hK1
          have e56 : a_.eval (.tmp 56) = _ := hk 56 rfl
          have e57 : a_.eval (.tmp 57) = _ := hk 57 rfl
          clear hk
          have f56 := ev_get.trans e56
          have f57 := ev_get.trans e57
          go_simp
          refine (nsub_calls n7.out n9.out).mono ?_
          rintro e_ w2_ ⟨fs_, hf_, rfl, x_⟩
          exact hK1.out _ _ x_ ⟨fs_, rfl, hf_⟩
        refine free_det (fun _ => Ext.refl _) _ rfl (v := .agg (ucells c_201).toArray) (d := 60) rfl rfl ?_ ?_
        · intro a_ w_ hev hR hk
          have e12 : a_.eval (.tmp 12) = _ := hk 12 rfl
          exact (exec_load_row rfl e12 (Q12.out w_ (Ext.trans (Ext.refl _).drew hR)) rfl rfl (by rw [S_c_201]; rfl))
        refine free_step _ rfl (fun u _ => ∃ es, u = .agg (ucells es).toArray ∧ IsN es (mulP (subP vb vd) v_202)) (d := 61) rfl (fun _ _ _ h _ => h) rfl ?_ ?_
        · intro a_ w_ hev hR hk K1 hK1
          obtain ⟨es_58, e58, n58⟩ : ∃ es, a_.eval (.tmp 58) = .agg (ucells es).toArray ∧ IsN es _ := hk 58 rfl
          have e59 : a_.eval (.tmp 59) = _ := hk 59 rfl
          clear hk
          have f58 := ev_get.trans e58
          have f59 := ev_get.trans e59
          go_simp
          refine (nmul_calls n58 n_201.out).mono ?_
          rintro e_ w2_ ⟨fs_, hf_, rfl, x_⟩
          exact hK1.out _ _ x_ ⟨fs_, rfl, hf_⟩
        refine free_new _ rfl (fun u w_ => ∃ g, u = .pointer (some ⟨g, 0, none⟩) ∧ w12_.drew.heap.size ≤ g ∧ w_.heap[g]? = some (.cells (ucells zn).toArray 68 (0, 0))) (d := 18) rfl (fun _ _ _ h e => by obtain ⟨g, h1, h2, h3⟩ := h; exact ⟨g, h1, h2, (e.block g (heap_lt h3)).trans h3⟩) rfl (by decide) (fun _ _ h => by obtain ⟨g, h1, h2, h3⟩ := h; subst h1; exact ⟨g, rfl, heap_lt h3⟩) ?_ ?_
        · intro a_ w_ hev hR hk K1 hK1
          go_simp
          exact hK1.out _ _ ((Ext.refl _).alloc _) ⟨_, rfl, hR.size, heap_alloc_new _ _⟩ (fun _ q => by cases q; exact Nat.le_refl _)
        intro v_ wq_ hR hV_ hN_
        obtain ⟨hv5, hv4, hv3, hv2, hv1, hv0, _⟩ := hV_
        replace hv0 : v_ 0 = _ := hv0
        replace hv1 : v_ 1 = _ := hv1
        skip
        replace hv3 : v_ 3 = _ := hv3
        skip
        skip
        dsimp only [putE, dOpt]
        obtain ⟨es_2, hv2, hn_2⟩ := hv2
        obtain ⟨es_4, hv4, hn_4⟩ := hv4
        obtain ⟨g_5, hv5, gb_5, gc_5⟩ := hv5
        clear hN_
        rw [hv0, hv1, hv2, hv3, hv4, hv5]
        simp only [Act.put, List.setIfInBounds_toArray, List.set_cons_zero, List.set_cons_succ]
        clear hv0 hv1 hv2 hv3 hv4 hv5
        generalize es_4 = c_211 at *
        have n_211 := hn_4
        clear hn_2 hn_4
        obtain ⟨v_212, hv_212⟩ : ∃ v, v = mulP (subP vb vd) v_202 := ⟨_, rfl⟩
        rw [← hv_212] at n_211
        replace hv_212 := Lib.hid (fun _ : Unit => hv_212)
        have S_c_211 := ucells_size n_211.len
        have O_c_211 := ucells_one c_211
        replace n_211 := Lib.hid n_211
        refine any_more (z := 6) _ rfl rfl (by kernel_rfl) ?_
        intro K1 hK1
        refine wp_store_row _ _ _ rfl g_5 (ucells c_211).toArray rfl rfl 68 (ucells zn).toArray gc_5 (by rw [S_c_211]; rfl) (by rw [S_c_211, S_zn]) O_c_211 ?_
        refine hK1.out _ _ ?_
        clear hK1 K1
        refine any_nil (by kernel_rfl) ?_
        have z17 : g9 < g_5 := Nat.lt_of_lt_of_le K9.out.lt gb_5
        have E_ : Ext w12_ (wq_.setRow g_5 (ucells c_211).toArray) := below_setRow ((Ext.refl w12_).drew.trans hR) gb_5 _
        refine gen_q (fun W => Ur W g5 68 cx ∧ Ur W g6 68 c6 ∧ Ur W g7 68 c7 ∧ Ur W g8 68 c8 ∧ Ur W g9 68 c9 ∧ Ur W g12 68 c_201 ∧ Ur W g13 68 c_203 ∧ Ur W g14 68 c_205 ∧ Ur W g15 68 c_207 ∧ Ur W g16 68 c_209 ∧ Ur W g_5 68 c_211 ∧ Below g6 w5_ W) ⟨K5.out.kept E_ K5.out.lt,
            K6.out.kept E_ K6.out.lt,
            K7.out.kept E_ K7.out.lt,
            K8.out.kept E_ K8.out.lt,
            K9.out.kept E_ K9.out.lt,
            K12.out.kept E_ K12.out.lt,
            K13.out.kept E_ K13.out.lt,
            K14.out.kept E_ K14.out.lt,
            K15.out.kept E_ K15.out.lt,
            K16.out.kept E_ K16.out.lt,
            setRow_heap _ _ _ _ _ _ gc_5,
            Below.trans KB.out (E_.mono (Nat.le_of_lt K6.out.lt))⟩ ?_
        clear K5 K6 K7 K8 K9 K12 K13 K14 K15 K16 KB E_ hR gc_5 gb_5 Q7 Q9 Q12
        rintro w13_ ⟨K5, K6, K7, K8, K9, K12, K13, K14, K15, K16, K17, KB⟩
        replace K5 := Lib.hid K5
        replace K6 := Lib.hid K6
        replace K7 := Lib.hid K7
        replace K8 := Lib.hid K8
        replace K9 := Lib.hid K9
        replace K12 := Lib.hid K12
        replace K13 := Lib.hid K13
        replace K14 := Lib.hid K14
        replace K15 := Lib.hid K15
        replace K16 := Lib.hid K16
        replace K17 := Lib.hid K17
        replace KB := Lib.hid KB
        generalize g_5 = g17 at *
        go_upto_region 22 with fail
        have Q7 : Hid (∀ s, Ext w13_ s → Ur s g7 68 c7) := fun s e => K7.out.kept e K7.out.lt
        have Q9 : Hid (∀ s, Ext w13_ s → Ur s g9 68 c9) := fun s e => K9.out.kept e K9.out.lt
        have Q13 : Hid (∀ s, Ext w13_ s → Ur s g13 68 c_203) := fun s e => K13.out.kept e K13.out.lt
        refine wp_region_free (R := Ext) Ext.refl (fun _ _ _ => Ext.trans) [0, 1, 2, 3, 4, 5] [6] [0, 0, 3, 0, 15, 0, 63] [true, true, true, true, true, true, false] [(0, 62, 256), (0, 63, 1024), (3, 64, 13835058055282163712), (0, 65, 16384), (12, 66, 55340232221128654848), (0, 19, 0), (63, 0, 73786976294838730752)] (by kernel_rfl) (by kernel_rfl) (by kernel_rfl) (by kernel_rfl) ?_
        refine free_det (fun _ => Ext.refl _) _ rfl (v := .agg (ucells c7).toArray) (d := 62) rfl rfl ?_ ?_
        · intro a_ w_ hev hR hk
          have e7 : a_.eval (.tmp 7) = _ := hk 7 rfl
          exact (exec_load_row rfl e7 (Q7.out w_ (Ext.trans (Ext.refl _).drew hR)) rfl rfl (by rw [S_c7]; rfl))
        refine free_det (fun _ => Ext.refl _) _ rfl (v := .agg (ucells c9).toArray) (d := 63) rfl rfl ?_ ?_
        · intro a_ w_ hev hR hk
          have e9 : a_.eval (.tmp 9) = _ := hk 9 rfl
          exact (exec_load_row rfl e9 (Q9.out w_ (Ext.trans (Ext.refl _).drew hR)) rfl rfl (by rw [S_c9]; rfl))
        refine free_step _ rfl (fun u _ => ∃ es, u = .agg (ucells es).toArray ∧ IsN es (addP vb vd)) (d := 64) rfl (fun _ _ _ h _ => h) rfl ?_ ?_
        · intro a_ w_ hev hR hk K1 hK1
          have e61 : a_.eval (.tmp 61) = _ := hk 61 rfl
          have e62 : a_.eval (.tmp 62) = _ := hk 62 rfl
          clear hk
          have f61 := ev_get.trans e61
          have f62 := ev_get.trans e62
          go_simp
          refine (nadd_calls n7.out n9.out).mono ?_
          rintro e_ w2_ ⟨fs_, hf_, rfl, x_⟩
          exact hK1.out _ _ x_ ⟨fs_, rfl, hf_⟩
        refine free_det (fun _ => Ext.refl _) _ rfl (v := .agg (ucells c_203).toArray) (d := 65) rfl rfl ?_ ?_
        · intro a_ w_ hev hR hk
          have e13 : a_.eval (.tmp 13) = _ := hk 13 rfl
          exact (exec_load_row rfl e13 (Q13.out w_ (Ext.trans (Ext.refl _).drew hR)) rfl rfl (by rw [S_c_203]; rfl))
        refine free_step _ rfl (fun u _ => ∃ es, u = .agg (ucells es).toArray ∧ IsN es (mulP (addP vb vd) v_204)) (d := 66) rfl (fun _ _ _ h _ => h) rfl ?_ ?_
        · intro a_ w_ hev hR hk K1 hK1
          obtain ⟨es_63, e63, n63⟩ : ∃ es, a_.eval (.tmp 63) = .agg (ucells es).toArray ∧ IsN es _ := hk 63 rfl
          have e64 : a_.eval (.tmp 64) = _ := hk 64 rfl
          clear hk
          have f63 := ev_get.trans e63
          have f64 := ev_get.trans e64
          go_simp
          refine (nmul_calls n63 n_203.out).mono ?_
          rintro e_ w2_ ⟨fs_, hf_, rfl, x_⟩
          exact hK1.out _ _ x_ ⟨fs_, rfl, hf_⟩
        refine free_new _ rfl (fun u w_ => ∃ g, u = .pointer (some ⟨g, 0, none⟩) ∧ w13_.drew.heap.size ≤ g ∧ w_.heap[g]? = some (.cells (ucells zn).toArray 68 (0, 0))) (d := 19) rfl (fun _ _ _ h e => by obtain ⟨g, h1, h2, h3⟩ := h; exact ⟨g, h1, h2, (e.block g (heap_lt h3)).trans h3⟩) rfl (by decide) (fun _ _ h => by obtain ⟨g, h1, h2, h3⟩ := h; subst h1; exact ⟨g, rfl, heap_lt h3⟩) ?_ ?_
        · intro a_ w_ hev hR hk K1 hK1
          go_simp
          exact hK1.out _ _ ((Ext.refl _).alloc _) ⟨_, rfl, hR.size, heap_alloc_new _ _⟩ (fun _ q => by cases q; exact Nat.le_refl _)
        intro v_ wq_ hR hV_ hN_
        obtain ⟨hv5, hv4, hv3, hv2, hv1, hv0, _⟩ := hV_
        replace hv0 : v_ 0 = _ := hv0
        replace hv1 : v_ 1 = _ := hv1
        skip
        replace hv3 : v_ 3 = _ := hv3
        skip
        skip
        dsimp only [putE, dOpt]
        obtain ⟨es_2, hv2, hn_2⟩ := hv2
        obtain ⟨es_4, hv4, hn_4⟩ := hv4
        obtain ⟨g_5, hv5, gb_5, gc_5⟩ := hv5
        clear hN_
        rw [hv0, hv1, hv2, hv3, hv4, hv5]
        simp only [Act.put, List.setIfInBounds_toArray, List.set_cons_zero, List.set_cons_succ]
        clear hv0 hv1 hv2 hv3 hv4 hv5
        generalize es_4 = c_213 at *
        have n_213 := hn_4
        clear hn_2 hn_4
        obtain ⟨v_214, hv_214⟩ : ∃ v, v = mulP (addP vb vd) v_204 := ⟨_, rfl⟩
        rw [← hv_214] at n_213
        replace hv_214 := Lib.hid (fun _ : Unit => hv_214)
        have S_c_213 := ucells_size n_213.len
        have O_c_213 := ucells_one c_213
        replace n_213 := Lib.hid n_213
        refine any_more (z := 6) _ rfl rfl (by kernel_rfl) ?_
        intro K1 hK1
        refine wp_store_row _ _ _ rfl g_5 (ucells c_213).toArray rfl rfl 68 (ucells zn).toArray gc_5 (by rw [S_c_213]; rfl) (by rw [S_c_213, S_zn]) O_c_213 ?_
        refine hK1.out _ _ ?_
        clear hK1 K1
        refine any_nil (by kernel_rfl) ?_
        have z18 : g9 < g_5 := Nat.lt_of_lt_of_le K9.out.lt gb_5
        have E_ : Ext w13_ (wq_.setRow g_5 (ucells c_213).toArray) := below_setRow ((Ext.refl w13_).drew.trans hR) gb_5 _
        refine gen_q (fun W => Ur W g5 68 cx ∧ Ur W g6 68 c6 ∧ Ur W g7 68 c7 ∧ Ur W g8 68 c8 ∧ Ur W g9 68 c9 ∧ Ur W g12 68 c_201 ∧ Ur W g13 68 c_203 ∧ Ur W g14 68 c_205 ∧ Ur W g15 68 c_207 ∧ Ur W g16 68 c_209 ∧ Ur W g17 68 c_211 ∧ Ur W g_5 68 c_213 ∧ Below g6 w5_ W) ⟨K5.out.kept E_ K5.out.lt,
            K6.out.kept E_ K6.out.lt,
            K7.out.kept E_ K7.out.lt,
            K8.out.kept E_ K8.out.lt,
            K9.out.kept E_ K9.out.lt,
            K12.out.kept E_ K12.out.lt,
            K13.out.kept E_ K13.out.lt,
            K14.out.kept E_ K14.out.lt,
            K15.out.kept E_ K15.out.lt,
            K16.out.kept E_ K16.out.lt,
            K17.out.kept E_ K17.out.lt,
            setRow_heap _ _ _ _ _ _ gc_5,
            Below.trans KB.out (E_.mono (Nat.le_of_lt K6.out.lt))⟩ ?_
        clear K5 K6 K7 K8 K9 K12 K13 K14 K15 K16 K17 KB E_ hR gc_5 gb_5 Q7 Q9 Q13
        rintro w14_ ⟨K5, K6, K7, K8, K9, K12, K13, K14, K15, K16, K17, K18, KB⟩
        replace K5 := Lib.hid K5
        replace K6 := Lib.hid K6
        replace K7 := Lib.hid K7
        replace K8 := Lib.hid K8
        replace K9 := Lib.hid K9
        replace K12 := Lib.hid K12
        replace K13 := Lib.hid K13
        replace K14 := Lib.hid K14
        replace K15 := Lib.hid K15
        replace K16 := Lib.hid K16
        replace K17 := Lib.hid K17
        replace K18 := Lib.hid K18
        replace KB := Lib.hid KB
        generalize g_5 = g18 at *
        clear K12
        clear K13
        go_wp2_with (first
          | (refine wpList_load_row rfl 68 _ rfl g17 rfl 68 (ucells c_211).toArray (0, 0) _ K17.out rfl rfl (by rw [S_c_211]; rfl) ?_; simp only [Act.put, List.setIfInBounds_toArray, List.set_cons_zero, List.set_cons_succ])
          | (refine wpList_load_row rfl 68 _ rfl g18 rfl 68 (ucells c_213).toArray (0, 0) _ K18.out rfl rfl (by rw [S_c_213]; rfl) ?_; simp only [Act.put, List.setIfInBounds_toArray, List.set_cons_zero, List.set_cons_succ]))
        refine (nadd_calls n_211.out n_213.out).mono ?_
        rintro e u_ ⟨c_215, n_215, rfl, e1⟩
        obtain ⟨v_216, hv_216⟩ : ∃ v, v = addP v_212 v_214 := ⟨_, rfl⟩
        rw [← hv_216] at n_215
        replace hv_216 := Lib.hid (fun _ : Unit => hv_216)
        have S_c_215 := ucells_size n_215.len
        have O_c_215 := ucells_one c_215
        replace n_215 := Lib.hid n_215
        have a1 : Hid ((u_.alloc (Obj.cells (ucells zn).toArray 68)).heap[u_.heap.size]? = some (.cells (ucells zn).toArray 68 (0, 0))) := heap_alloc_new _ _
        have E_ : Ext w14_ ((u_.alloc (Obj.cells (ucells zn).toArray 68)).setRow u_.heap.size (ucells c_215).toArray) := e1.trans (below_setRow ((Ext.refl u_).alloc _) (Nat.le_refl _) _)
        go_upto_region 24 with (first
          | (refine wpList_store_row rfl 68 _ _ rfl u_.heap.size (ucells c_215).toArray rfl rfl 68 _ a1.out (by rw [S_c_215]; rfl) (by rw [S_c_215, S_zn]) O_c_215 ?_; simp only [Act.put]))
        obtain ⟨g19, hg_⟩ : ∃ g, g = u_.heap.size := ⟨_, rfl⟩
        have z19 : g9 < g19 := by rw [hg_]; exact Nat.lt_of_lt_of_le K9.out.lt e1.size
        refine wp_gen (fun W => Ur W g5 68 cx ∧ Ur W g6 68 c6 ∧ Ur W g7 68 c7 ∧ Ur W g8 68 c8 ∧ Ur W g9 68 c9 ∧ Ur W g14 68 c_205 ∧ Ur W g15 68 c_207 ∧ Ur W g16 68 c_209 ∧ Ur W g17 68 c_211 ∧ Ur W g18 68 c_213 ∧ Ur W g19 68 c_215 ∧ Below g6 w5_ W) ⟨K5.out.kept E_ K5.out.lt,
            K6.out.kept E_ K6.out.lt,
            K7.out.kept E_ K7.out.lt,
            K8.out.kept E_ K8.out.lt,
            K9.out.kept E_ K9.out.lt,
            K14.out.kept E_ K14.out.lt,
            K15.out.kept E_ K15.out.lt,
            K16.out.kept E_ K16.out.lt,
            K17.out.kept E_ K17.out.lt,
            K18.out.kept E_ K18.out.lt,
            by rw [hg_]; exact setRow_heap _ _ _ _ _ _ a1.out,
            Below.trans KB.out (E_.mono (Nat.le_of_lt K6.out.lt))⟩ ?_
        rw [← hg_]
        clear K5 K6 K7 K8 K9 K14 K15 K16 K17 K18 KB hg_ a1 E_ e1
        rintro w15_ ⟨K5, K6, K7, K8, K9, K14, K15, K16, K17, K18, K19, KB⟩
        replace K5 := Lib.hid K5
        replace K6 := Lib.hid K6
        replace K7 := Lib.hid K7
        replace K8 := Lib.hid K8
        replace K9 := Lib.hid K9
        replace K14 := Lib.hid K14
        replace K15 := Lib.hid K15
        replace K16 := Lib.hid K16
        replace K17 := Lib.hid K17
        replace K18 := Lib.hid K18
        replace K19 := Lib.hid K19
        replace KB := Lib.hid KB
        go_wp2_with (first
          | (refine wpList_load_row rfl 68 _ rfl g17 rfl 68 (ucells c_211).toArray (0, 0) _ K17.out rfl rfl (by rw [S_c_211]; rfl) ?_; simp only [Act.put, List.setIfInBounds_toArray, List.set_cons_zero, List.set_cons_succ])
          | (refine wpList_load_row rfl 68 _ rfl g18 rfl 68 (ucells c_213).toArray (0, 0) _ K18.out rfl rfl (by rw [S_c_213]; rfl) ?_; simp only [Act.put, List.setIfInBounds_toArray, List.set_cons_zero, List.set_cons_succ]))
        refine (nsub_calls n_211.out n_213.out).mono ?_
        rintro e u_ ⟨c_217, n_217, rfl, e1⟩
        obtain ⟨v_218, hv_218⟩ : ∃ v, v = subP v_212 v_214 := ⟨_, rfl⟩
        rw [← hv_218] at n_217
        replace hv_218 := Lib.hid (fun _ : Unit => hv_218)
        have S_c_217 := ucells_size n_217.len
        have O_c_217 := ucells_one c_217
        replace n_217 := Lib.hid n_217
        have a1 : Hid ((u_.alloc (Obj.cells (ucells zn).toArray 68)).heap[u_.heap.size]? = some (.cells (ucells zn).toArray 68 (0, 0))) := heap_alloc_new _ _
        have E_ : Ext w15_ ((u_.alloc (Obj.cells (ucells zn).toArray 68)).setRow u_.heap.size (ucells c_217).toArray) := e1.trans (below_setRow ((Ext.refl u_).alloc _) (Nat.le_refl _) _)
        go_upto_region 25 with (first
          | (refine wpList_store_row rfl 68 _ _ rfl u_.heap.size (ucells c_217).toArray rfl rfl 68 _ a1.out (by rw [S_c_217]; rfl) (by rw [S_c_217, S_zn]) O_c_217 ?_; simp only [Act.put]))
        obtain ⟨g20, hg_⟩ : ∃ g, g = u_.heap.size := ⟨_, rfl⟩
        have z20 : g9 < g20 := by rw [hg_]; exact Nat.lt_of_lt_of_le K9.out.lt e1.size
        refine wp_gen (fun W => Ur W g5 68 cx ∧ Ur W g6 68 c6 ∧ Ur W g7 68 c7 ∧ Ur W g8 68 c8 ∧ Ur W g9 68 c9 ∧ Ur W g14 68 c_205 ∧ Ur W g15 68 c_207 ∧ Ur W g16 68 c_209 ∧ Ur W g17 68 c_211 ∧ Ur W g18 68 c_213 ∧ Ur W g19 68 c_215 ∧ Ur W g20 68 c_217 ∧ Below g6 w5_ W) ⟨K5.out.kept E_ K5.out.lt,
            K6.out.kept E_ K6.out.lt,
            K7.out.kept E_ K7.out.lt,
            K8.out.kept E_ K8.out.lt,
            K9.out.kept E_ K9.out.lt,
            K14.out.kept E_ K14.out.lt,
            K15.out.kept E_ K15.out.lt,
            K16.out.kept E_ K16.out.lt,
            K17.out.kept E_ K17.out.lt,
            K18.out.kept E_ K18.out.lt,
            K19.out.kept E_ K19.out.lt,
            by rw [hg_]; exact setRow_heap _ _ _ _ _ _ a1.out,
            Below.trans KB.out (E_.mono (Nat.le_of_lt K6.out.lt))⟩ ?_
        rw [← hg_]
        clear K5 K6 K7 K8 K9 K14 K15 K16 K17 K18 K19 KB hg_ a1 E_ e1
        rintro w16_ ⟨K5, K6, K7, K8, K9, K14, K15, K16, K17, K18, K19, K20, KB⟩
        replace K5 := Lib.hid K5
        replace K6 := Lib.hid K6
        replace K7 := Lib.hid K7
        replace K8 := Lib.hid K8
        replace K9 := Lib.hid K9
        replace K14 := Lib.hid K14
        replace K15 := Lib.hid K15
        replace K16 := Lib.hid K16
        replace K17 := Lib.hid K17
        replace K18 := Lib.hid K18
        replace K19 := Lib.hid K19
        replace K20 := Lib.hid K20
        replace KB := Lib.hid KB
        clear K17
        clear K18
        go_wp2_with (first
          | (refine wpList_load_row rfl 68 _ rfl g19 rfl 68 (ucells c_215).toArray (0, 0) _ K19.out rfl rfl (by rw [S_c_215]; rfl) ?_; simp only [Act.put, List.setIfInBounds_toArray, List.set_cons_zero, List.set_cons_succ]))
        refine (nmul_calls n_215.out n_215.out).mono ?_
        rintro e u_ ⟨c_219, n_219, rfl, e1⟩
        obtain ⟨v_220, hv_220⟩ : ∃ v, v = mulP v_216 v_216 := ⟨_, rfl⟩
        rw [← hv_220] at n_219
        replace hv_220 := Lib.hid (fun _ : Unit => hv_220)
        have S_c_219 := ucells_size n_219.len
        have O_c_219 := ucells_one c_219
        replace n_219 := Lib.hid n_219
        have mK5 := Lib.hid (K5.out.kept e1 K5.out.lt)
        have mK6 := Lib.hid (K6.out.kept e1 K6.out.lt)
        have mK7 := Lib.hid (K7.out.kept e1 K7.out.lt)
        have mK8 := Lib.hid (K8.out.kept e1 K8.out.lt)
        have mK9 := Lib.hid (K9.out.kept e1 K9.out.lt)
        have mK14 := Lib.hid (K14.out.kept e1 K14.out.lt)
        have mK15 := Lib.hid (K15.out.kept e1 K15.out.lt)
        have mK16 := Lib.hid (K16.out.kept e1 K16.out.lt)
        have mK19 := Lib.hid (K19.out.kept e1 K19.out.lt)
        have mK20 := Lib.hid (K20.out.kept e1 K20.out.lt)
        have mKB := Lib.hid (Below.trans KB.out (e1.mono (Nat.le_of_lt K6.out.lt)))
        go_upto_region 26 with (first
          | (refine wpList_store_row rfl 68 _ _ rfl g7 (ucells c_219).toArray rfl rfl 68 _ mK7.out (by rw [S_c_219]; rfl) (by rw [S_c_219, S_c7]) O_c_219 ?_; simp only [Act.put]))
        refine wp_gen (fun W => Ur W g5 68 cx ∧ Ur W g6 68 c6 ∧ Ur W g7 68 c_219 ∧ Ur W g8 68 c8 ∧ Ur W g9 68 c9 ∧ Ur W g14 68 c_205 ∧ Ur W g15 68 c_207 ∧ Ur W g16 68 c_209 ∧ Ur W g19 68 c_215 ∧ Ur W g20 68 c_217 ∧ Below g6 w5_ W) ⟨(setRow_other _ _ _ _ (by omega)).trans mK5.out,
            (setRow_other _ _ _ _ (by omega)).trans mK6.out,
            setRow_heap _ _ _ _ _ _ mK7.out,
            (setRow_other _ _ _ _ (by omega)).trans mK8.out,
            (setRow_other _ _ _ _ (by omega)).trans mK9.out,
            (setRow_other _ _ _ _ (by omega)).trans mK14.out,
            (setRow_other _ _ _ _ (by omega)).trans mK15.out,
            (setRow_other _ _ _ _ (by omega)).trans mK16.out,
            (setRow_other _ _ _ _ (by omega)).trans mK19.out,
            (setRow_other _ _ _ _ (by omega)).trans mK20.out,
            below_setRow mKB.out (by omega) _⟩ ?_
        clear K5 K6 K7 K8 K9 K14 K15 K16 K19 K20 KB e1 mK5 mK6 mK7 mK8 mK9 mK14 mK15 mK16 mK19 mK20 mKB
        rintro w17_ ⟨K5, K6, K7, K8, K9, K14, K15, K16, K19, K20, KB⟩
        replace K5 := Lib.hid K5
        replace K6 := Lib.hid K6
        replace K7 := Lib.hid K7
        replace K8 := Lib.hid K8
        replace K9 := Lib.hid K9
        replace K14 := Lib.hid K14
        replace K15 := Lib.hid K15
        replace K16 := Lib.hid K16
        replace K19 := Lib.hid K19
        replace K20 := Lib.hid K20
        replace KB := Lib.hid KB
        clear K19
        have Q5 : Hid (∀ s, Ext w17_ s → Ur s g5 68 cx) := fun s e => K5.out.kept e K5.out.lt
        have Q20 : Hid (∀ s, Ext w17_ s → Ur s g20 68 c_217) := fun s e => K20.out.kept e K20.out.lt
        refine wp_region_free (R := Ext) Ext.refl (fun _ _ _ => Ext.trans) [0, 1, 2, 3, 4] [5] [0, 0, 0, 6, 15, 31] [true, true, true, true, true, false] [(0, 76, 64), (0, 77, 2097152), (0, 78, 2097152), (6, 79, 453347182355485940514816), (9, 80, 680020773533228910772224), (31, 0, 1208925819614629174707200)] (by kernel_rfl) (by kernel_rfl) (by kernel_rfl) (by kernel_rfl) ?_
        refine free_det (fun _ => Ext.refl _) _ rfl (v := .agg (ucells cx).toArray) (d := 76) rfl rfl ?_ ?_
        · intro a_ w_ hev hR hk
          have e5 : a_.eval (.tmp 5) = _ := hk 5 rfl
          exact (exec_load_row rfl e5 (Q5.out w_ (Ext.trans (Ext.refl _).drew hR)) rfl rfl (by rw [S_cx]; rfl))
        refine free_det (fun _ => Ext.refl _) _ rfl (v := .agg (ucells c_217).toArray) (d := 77) rfl rfl ?_ ?_
        · intro a_ w_ hev hR hk
          have e20 : a_.eval (.tmp 20) = _ := hk 20 rfl
          exact (exec_load_row rfl e20 (Q20.out w_ (Ext.trans (Ext.refl _).drew hR)) rfl rfl (by rw [S_c_217]; rfl))
        refine free_det (fun _ => Ext.refl _) _ rfl (v := .agg (ucells c_217).toArray) (d := 78) rfl rfl ?_ ?_
        · intro a_ w_ hev hR hk
          have e20 : a_.eval (.tmp 20) = _ := hk 20 rfl
          exact (exec_load_row rfl e20 (Q20.out w_ (Ext.trans (Ext.refl _).drew hR)) rfl rfl (by rw [S_c_217]; rfl))
        refine free_step _ rfl (fun u _ => ∃ es, u = .agg (ucells es).toArray ∧ IsN es (mulP v_218 v_218)) (d := 79) rfl (fun _ _ _ h _ => h) rfl ?_ ?_
        · intro a_ w_ hev hR hk K1 hK1
          have e76 : a_.eval (.tmp 76) = _ := hk 76 rfl
          have e77 : a_.eval (.tmp 77) = _ := hk 77 rfl
          clear hk
          have f76 := ev_get.trans e76
          have f77 := ev_get.trans e77
          go_simp
          refine (nmul_calls n_217.out n_217.out).mono ?_
          rintro e_ w2_ ⟨fs_, hf_, rfl, x_⟩
          exact hK1.out _ _ x_ ⟨fs_, rfl, hf_⟩
        refine free_step _ rfl (fun u _ => ∃ es, u = .agg (ucells es).toArray ∧ IsN es (mulP x (mulP v_218 v_218))) (d := 80) rfl (fun _ _ _ h _ => h) rfl ?_ ?_
        · intro a_ w_ hev hR hk K1 hK1
          have e75 : a_.eval (.tmp 75) = _ := hk 75 rfl
          obtain ⟨es_78, e78, n78⟩ : ∃ es, a_.eval (.tmp 78) = .agg (ucells es).toArray ∧ IsN es _ := hk 78 rfl
          clear hk
          have f75 := ev_get.trans e75
          have f78 := ev_get.trans e78
          go_simp
          refine (nmul_calls n_cx.out n78).mono ?_
          rintro e_ w2_ ⟨fs_, hf_, rfl, x_⟩
          exact hK1.out _ _ x_ ⟨fs_, rfl, hf_⟩
        intro v_ wq_ hR hV_ hN_
        obtain ⟨hv4, hv3, hv2, hv1, hv0, _⟩ := hV_
        replace hv0 : v_ 0 = _ := hv0
        replace hv1 : v_ 1 = _ := hv1
        replace hv2 : v_ 2 = _ := hv2
        skip
        skip
        dsimp only [putE, dOpt]
        obtain ⟨es_3, hv3, hn_3⟩ := hv3
        obtain ⟨es_4, hv4, hn_4⟩ := hv4
        clear hN_
        rw [hv0, hv1, hv2, hv3, hv4]
        simp only [Act.put, List.setIfInBounds_toArray, List.set_cons_zero, List.set_cons_succ]
        clear hv0 hv1 hv2 hv3 hv4
        generalize es_4 = c_221 at *
        have n_221 := hn_4
        clear hn_3 hn_4
        obtain ⟨v_222, hv_222⟩ : ∃ v, v = mulP x (mulP v_218 v_218) := ⟨_, rfl⟩
        rw [← hv_222] at n_221
        replace hv_222 := Lib.hid (fun _ : Unit => hv_222)
        have S_c_221 := ucells_size n_221.len
        have O_c_221 := ucells_one c_221
        replace n_221 := Lib.hid n_221
        have mm_ := Lib.hid (K9.out.kept ((Ext.refl w17_).drew.trans hR) K9.out.lt)
        refine any_more (z := 5) _ rfl rfl (by kernel_rfl) ?_
        intro K1 hK1
        refine wp_store_row _ _ _ rfl g9 (ucells c_221).toArray rfl rfl 68 (ucells c9).toArray mm_.out (by rw [S_c_221]; rfl) (by rw [S_c_221, S_c9]) O_c_221 ?_
        refine hK1.out _ _ ?_
        clear hK1 K1
        refine any_nil (by kernel_rfl) ?_
        have mK5 := Lib.hid (K5.out.kept ((Ext.refl w17_).drew.trans hR) K5.out.lt)
        have mK6 := Lib.hid (K6.out.kept ((Ext.refl w17_).drew.trans hR) K6.out.lt)
        have mK7 := Lib.hid (K7.out.kept ((Ext.refl w17_).drew.trans hR) K7.out.lt)
        have mK8 := Lib.hid (K8.out.kept ((Ext.refl w17_).drew.trans hR) K8.out.lt)
        have mK9 := Lib.hid (K9.out.kept ((Ext.refl w17_).drew.trans hR) K9.out.lt)
        have mK14 := Lib.hid (K14.out.kept ((Ext.refl w17_).drew.trans hR) K14.out.lt)
        have mK15 := Lib.hid (K15.out.kept ((Ext.refl w17_).drew.trans hR) K15.out.lt)
        have mK16 := Lib.hid (K16.out.kept ((Ext.refl w17_).drew.trans hR) K16.out.lt)
        have mK20 := Lib.hid (K20.out.kept ((Ext.refl w17_).drew.trans hR) K20.out.lt)
        have mKB := Lib.hid (Below.trans KB.out (((Ext.refl w17_).drew.trans hR).mono (Nat.le_of_lt K6.out.lt)))
        refine gen_q (fun W => Ur W g5 68 cx ∧ Ur W g6 68 c6 ∧ Ur W g7 68 c_219 ∧ Ur W g8 68 c8 ∧ Ur W g9 68 c_221 ∧ Ur W g14 68 c_205 ∧ Ur W g15 68 c_207 ∧ Ur W g16 68 c_209 ∧ Ur W g20 68 c_217 ∧ Below g6 w5_ W) ⟨(setRow_other _ _ _ _ (by omega)).trans mK5.out,
            (setRow_other _ _ _ _ (by omega)).trans mK6.out,
            (setRow_other _ _ _ _ (by omega)).trans mK7.out,
            (setRow_other _ _ _ _ (by omega)).trans mK8.out,
            setRow_heap _ _ _ _ _ _ mK9.out,
            (setRow_other _ _ _ _ (by omega)).trans mK14.out,
            (setRow_other _ _ _ _ (by omega)).trans mK15.out,
            (setRow_other _ _ _ _ (by omega)).trans mK16.out,
            (setRow_other _ _ _ _ (by omega)).trans mK20.out,
            below_setRow mKB.out (by omega) _⟩ ?_
        clear K5 K6 K7 K8 K9 K14 K15 K16 K20 KB mm_ hR mK5 mK6 mK7 mK8 mK9 mK14 mK15 mK16 mK20 mKB Q5 Q20
        rintro w18_ ⟨K5, K6, K7, K8, K9, K14, K15, K16, K20, KB⟩
        replace K5 := Lib.hid K5
        replace K6 := Lib.hid K6
        replace K7 := Lib.hid K7
        replace K8 := Lib.hid K8
        replace K9 := Lib.hid K9
        replace K14 := Lib.hid K14
        replace K15 := Lib.hid K15
        replace K16 := Lib.hid K16
        replace K20 := Lib.hid K20
        replace KB := Lib.hid KB
        clear K20
        go_wp2_with (first
          | (refine wpList_load_row rfl 68 _ rfl g14 rfl 68 (ucells c_205).toArray (0, 0) _ K14.out rfl rfl (by rw [S_c_205]; rfl) ?_; simp only [Act.put, List.setIfInBounds_toArray, List.set_cons_zero, List.set_cons_succ])
          | (refine wpList_load_row rfl 68 _ rfl g15 rfl 68 (ucells c_207).toArray (0, 0) _ K15.out rfl rfl (by rw [S_c_207]; rfl) ?_; simp only [Act.put, List.setIfInBounds_toArray, List.set_cons_zero, List.set_cons_succ]))
        refine (nmul_calls n_205.out n_207.out).mono ?_
        rintro e u_ ⟨c_223, n_223, rfl, e1⟩
        obtain ⟨v_224, hv_224⟩ : ∃ v, v = mulP v_206 v_208 := ⟨_, rfl⟩
        rw [← hv_224] at n_223
        replace hv_224 := Lib.hid (fun _ : Unit => hv_224)
        have S_c_223 := ucells_size n_223.len
        have O_c_223 := ucells_one c_223
        replace n_223 := Lib.hid n_223
        have mK5 := Lib.hid (K5.out.kept e1 K5.out.lt)
        have mK6 := Lib.hid (K6.out.kept e1 K6.out.lt)
        have mK7 := Lib.hid (K7.out.kept e1 K7.out.lt)
        have mK8 := Lib.hid (K8.out.kept e1 K8.out.lt)
        have mK9 := Lib.hid (K9.out.kept e1 K9.out.lt)
        have mK14 := Lib.hid (K14.out.kept e1 K14.out.lt)
        have mK15 := Lib.hid (K15.out.kept e1 K15.out.lt)
        have mK16 := Lib.hid (K16.out.kept e1 K16.out.lt)
        have mKB := Lib.hid (Below.trans KB.out (e1.mono (Nat.le_of_lt K6.out.lt)))
        go_upto_region 28 with (first
          | (refine wpList_store_row rfl 68 _ _ rfl g6 (ucells c_223).toArray rfl rfl 68 _ mK6.out (by rw [S_c_223]; rfl) (by rw [S_c_223, S_c6]) O_c_223 ?_; simp only [Act.put]))
        refine wp_gen (fun W => Ur W g5 68 cx ∧ Ur W g6 68 c_223 ∧ Ur W g7 68 c_219 ∧ Ur W g8 68 c8 ∧ Ur W g9 68 c_221 ∧ Ur W g14 68 c_205 ∧ Ur W g15 68 c_207 ∧ Ur W g16 68 c_209 ∧ Below g6 w5_ W) ⟨(setRow_other _ _ _ _ (by omega)).trans mK5.out,
            setRow_heap _ _ _ _ _ _ mK6.out,
            (setRow_other _ _ _ _ (by omega)).trans mK7.out,
            (setRow_other _ _ _ _ (by omega)).trans mK8.out,
            (setRow_other _ _ _ _ (by omega)).trans mK9.out,
            (setRow_other _ _ _ _ (by omega)).trans mK14.out,
            (setRow_other _ _ _ _ (by omega)).trans mK15.out,
            (setRow_other _ _ _ _ (by omega)).trans mK16.out,
            below_setRow mKB.out (by omega) _⟩ ?_
        clear K5 K6 K7 K8 K9 K14 K15 K16 KB e1 mK5 mK6 mK7 mK8 mK9 mK14 mK15 mK16 mKB
        rintro w19_ ⟨K5, K6, K7, K8, K9, K14, K15, K16, KB⟩
        replace K5 := Lib.hid K5
        replace K6 := Lib.hid K6
        replace K7 := Lib.hid K7
        replace K8 := Lib.hid K8
        replace K9 := Lib.hid K9
        replace K14 := Lib.hid K14
        replace K15 := Lib.hid K15
        replace K16 := Lib.hid K16
        replace KB := Lib.hid KB
        clear K15
        have Q14 : Hid (∀ s, Ext w19_ s → Ur s g14 68 c_205) := fun s e => K14.out.kept e K14.out.lt
        have Q16 : Hid (∀ s, Ext w19_ s → Ur s g16 68 c_209) := fun s e => K16.out.kept e K16.out.lt
        refine wp_region_free (R := Ext) Ext.refl (fun _ _ _ => Ext.trans) [0, 1, 2, 3, 4, 5, 6] [7] [0, 0, 0, 0, 12, 30, 63, 127] [true, true, true, true, true, true, true, false] [(0, 84, 131072), (0, 85, 32768), (0, 86, 0), (0, 87, 131072), (12, 88, 232113757366008801543585792), (18, 89, 348170636049013202315378688), (33, 90, 638312832756524204244860928), (127, 0, 1237940039285380274899124736)] (by kernel_rfl) (by kernel_rfl) (by kernel_rfl) (by kernel_rfl) ?_
        refine free_det (fun _ => Ext.refl _) _ rfl (v := .agg (ucells c_209).toArray) (d := 84) rfl rfl ?_ ?_
        · intro a_ w_ hev hR hk
          have e16 : a_.eval (.tmp 16) = _ := hk 16 rfl
          exact (exec_load_row rfl e16 (Q16.out w_ (Ext.trans (Ext.refl _).drew hR)) rfl rfl (by rw [S_c_209]; rfl))
        refine free_det (fun _ => Ext.refl _) _ rfl (v := .agg (ucells c_205).toArray) (d := 85) rfl rfl ?_ ?_
        · intro a_ w_ hev hR hk
          have e14 : a_.eval (.tmp 14) = _ := hk 14 rfl
          exact (exec_load_row rfl e14 (Q14.out w_ (Ext.trans (Ext.refl _).drew hR)) rfl rfl (by rw [S_c_205]; rfl))
        refine free_det (fun _ => Ext.refl _) _ rfl (v := .agg (ucells fw).toArray) (d := 86) rfl rfl ?_ ?_
        · intro a_ w_ hev hR hk
          exact (exec_build_as rfl (by simp only [List.map_toArray, List.map_cons, List.map_nil, hev.1]; exact hbf.out))
        refine free_det (fun _ => Ext.refl _) _ rfl (v := .agg (ucells c_209).toArray) (d := 87) rfl rfl ?_ ?_
        · intro a_ w_ hev hR hk
          have e16 : a_.eval (.tmp 16) = _ := hk 16 rfl
          exact (exec_load_row rfl e16 (Q16.out w_ (Ext.trans (Ext.refl _).drew hR)) rfl rfl (by rw [S_c_209]; rfl))
        refine free_step _ rfl (fun u _ => ∃ es, u = .agg (ucells es).toArray ∧ IsN es (mulP 121665 v_210)) (d := 88) rfl (fun _ _ _ h _ => h) rfl ?_ ?_
        · intro a_ w_ hev hR hk K1 hK1
          have e85 : a_.eval (.tmp 85) = _ := hk 85 rfl
          have e86 : a_.eval (.tmp 86) = _ := hk 86 rfl
          clear hk
          have f85 := ev_get.trans e85
          have f86 := ev_get.trans e86
          go_simp
          refine (nmul_calls n_fw.out n_209.out).mono ?_
          rintro e_ w2_ ⟨fs_, hf_, rfl, x_⟩
          exact hK1.out _ _ x_ ⟨fs_, rfl, hf_⟩
        refine free_step _ rfl (fun u _ => ∃ es, u = .agg (ucells es).toArray ∧ IsN es (addP v_206 (mulP 121665 v_210))) (d := 89) rfl (fun _ _ _ h _ => h) rfl ?_ ?_
        · intro a_ w_ hev hR hk K1 hK1
          have e84 : a_.eval (.tmp 84) = _ := hk 84 rfl
          obtain ⟨es_87, e87, n87⟩ : ∃ es, a_.eval (.tmp 87) = .agg (ucells es).toArray ∧ IsN es _ := hk 87 rfl
          clear hk
          have f84 := ev_get.trans e84
          have f87 := ev_get.trans e87
          go_simp
          refine (nadd_calls n_205.out n87).mono ?_
          rintro e_ w2_ ⟨fs_, hf_, rfl, x_⟩
          exact hK1.out _ _ x_ ⟨fs_, rfl, hf_⟩
        refine free_step _ rfl (fun u _ => ∃ es, u = .agg (ucells es).toArray ∧ IsN es (mulP v_210 (addP v_206 (mulP 121665 v_210)))) (d := 90) rfl (fun _ _ _ h _ => h) rfl ?_ ?_
        · intro a_ w_ hev hR hk K1 hK1
          have e83 : a_.eval (.tmp 83) = _ := hk 83 rfl
          obtain ⟨es_88, e88, n88⟩ : ∃ es, a_.eval (.tmp 88) = .agg (ucells es).toArray ∧ IsN es _ := hk 88 rfl
          clear hk
          have f83 := ev_get.trans e83
          have f88 := ev_get.trans e88
          go_simp
          refine (nmul_calls n_209.out n88).mono ?_
          rintro e_ w2_ ⟨fs_, hf_, rfl, x_⟩
          exact hK1.out _ _ x_ ⟨fs_, rfl, hf_⟩
        intro v_ wq_ hR hV_ hN_
        obtain ⟨hv6, hv5, hv4, hv3, hv2, hv1, hv0, _⟩ := hV_
        replace hv0 : v_ 0 = _ := hv0
        replace hv1 : v_ 1 = _ := hv1
        replace hv2 : v_ 2 = _ := hv2
        replace hv3 : v_ 3 = _ := hv3
        skip
        skip
        skip
        dsimp only [putE, dOpt]
        obtain ⟨es_4, hv4, hn_4⟩ := hv4
        obtain ⟨es_5, hv5, hn_5⟩ := hv5
        obtain ⟨es_6, hv6, hn_6⟩ := hv6
        clear hN_
        rw [hv0, hv1, hv2, hv3, hv4, hv5, hv6]
        simp only [Act.put, List.setIfInBounds_toArray, List.set_cons_zero, List.set_cons_succ]
        clear hv0 hv1 hv2 hv3 hv4 hv5 hv6
        generalize es_6 = c_225 at *
        have n_225 := hn_6
        clear hn_4 hn_5 hn_6
        obtain ⟨v_226, hv_226⟩ : ∃ v, v = mulP v_210 (addP v_206 (mulP 121665 v_210)) := ⟨_, rfl⟩
        rw [← hv_226] at n_225
        replace hv_226 := Lib.hid (fun _ : Unit => hv_226)
        have S_c_225 := ucells_size n_225.len
        have O_c_225 := ucells_one c_225
        replace n_225 := Lib.hid n_225
        have mm_ := Lib.hid (K8.out.kept ((Ext.refl w19_).drew.trans hR) K8.out.lt)
        refine any_more (z := 7) _ rfl rfl (by kernel_rfl) ?_
        intro K1 hK1
        refine wp_store_row _ _ _ rfl g8 (ucells c_225).toArray rfl rfl 68 (ucells c8).toArray mm_.out (by rw [S_c_225]; rfl) (by rw [S_c_225, S_c8]) O_c_225 ?_
        refine hK1.out _ _ ?_
        clear hK1 K1
        refine any_nil (by kernel_rfl) ?_
        have mK5 := Lib.hid (K5.out.kept ((Ext.refl w19_).drew.trans hR) K5.out.lt)
        have mK6 := Lib.hid (K6.out.kept ((Ext.refl w19_).drew.trans hR) K6.out.lt)
        have mK7 := Lib.hid (K7.out.kept ((Ext.refl w19_).drew.trans hR) K7.out.lt)
        have mK8 := Lib.hid (K8.out.kept ((Ext.refl w19_).drew.trans hR) K8.out.lt)
        have mK9 := Lib.hid (K9.out.kept ((Ext.refl w19_).drew.trans hR) K9.out.lt)
        have mK14 := Lib.hid (K14.out.kept ((Ext.refl w19_).drew.trans hR) K14.out.lt)
        have mK16 := Lib.hid (K16.out.kept ((Ext.refl w19_).drew.trans hR) K16.out.lt)
        have mKB := Lib.hid (Below.trans KB.out (((Ext.refl w19_).drew.trans hR).mono (Nat.le_of_lt K6.out.lt)))
        refine gen_q (fun W => Ur W g5 68 cx ∧ Ur W g6 68 c_223 ∧ Ur W g7 68 c_219 ∧ Ur W g8 68 c_225 ∧ Ur W g9 68 c_221 ∧ Ur W g14 68 c_205 ∧ Ur W g16 68 c_209 ∧ Below g6 w5_ W) ⟨(setRow_other _ _ _ _ (by omega)).trans mK5.out,
            (setRow_other _ _ _ _ (by omega)).trans mK6.out,
            (setRow_other _ _ _ _ (by omega)).trans mK7.out,
            setRow_heap _ _ _ _ _ _ mK8.out,
            (setRow_other _ _ _ _ (by omega)).trans mK9.out,
            (setRow_other _ _ _ _ (by omega)).trans mK14.out,
            (setRow_other _ _ _ _ (by omega)).trans mK16.out,
            below_setRow mKB.out (by omega) _⟩ ?_
        clear K5 K6 K7 K8 K9 K14 K16 KB mm_ hR mK5 mK6 mK7 mK8 mK9 mK14 mK16 mKB Q14 Q16
        rintro w20_ ⟨K5, K6, K7, K8, K9, K14, K16, KB⟩
        replace K5 := Lib.hid K5
        replace K6 := Lib.hid K6
        replace K7 := Lib.hid K7
        replace K8 := Lib.hid K8
        replace K9 := Lib.hid K9
        replace K14 := Lib.hid K14
        replace K16 := Lib.hid K16
        replace KB := Lib.hid KB
        clear K14
        clear K16
        have KX := Lib.hid (P3.out _ KB.out).1
        go_wp2_with (refine wpList_load_row rfl 23 _ rfl w.heap.size rfl 23 (cellsOf ks).toArray (0, 0) _ KX.out.1 rfl rfl (by rw [S_ks]; rfl) ?_; simp only [Act.put, List.setIfInBounds_toArray, List.set_cons_zero, List.set_cons_succ])
        refine (BT.out _).mono ?_
        rintro e u_ ⟨rfl, e1⟩
        clear KX
        go_wp2_with fail
        have NX : S (m + 1) = (v_224, v_220, v_226, v_222) := by
          rw [S1m.out ()]
          replace hv_202 := hv_202.out ()
          replace hv_204 := hv_204.out ()
          replace hv_206 := hv_206.out ()
          replace hv_208 := hv_208.out ()
          replace hv_210 := hv_210.out ()
          replace hv_212 := hv_212.out ()
          replace hv_214 := hv_214.out ()
          replace hv_216 := hv_216.out ()
          replace hv_218 := hv_218.out ()
          replace hv_220 := hv_220.out ()
          replace hv_222 := hv_222.out ()
          replace hv_224 := hv_224.out ()
          replace hv_226 := hv_226.out ()
          subst hv_226 hv_224 hv_222 hv_220 hv_218 hv_216 hv_214 hv_212 hv_210 hv_208 hv_206 hv_204 hv_202
          rw [mulP_sq x]
          rfl
        exact ⟨⟨m + 1, c_223, c_219, c_225, c_221, hm1.out, by rw [← hbn1.out], K6.out.kept e1 K6.out.lt,
            K7.out.kept e1 K7.out.lt,
            K8.out.kept e1 K8.out.lt,
            K9.out.kept e1 K9.out.lt, by rw [NX]; exact n_223.out, by rw [NX]; exact n_219.out, by rw [NX]; exact n_225.out, by rw [NX]; exact n_221.out, Below.trans KB.out (e1.mono (Nat.le_of_lt K6.out.lt))⟩, by simp [intOf]; omega⟩
    · obtain rfl : m = 255 := by omega
      have S_c6 := ucells_size n6.len
      have S_c8 := ucells_size n8.len
      have Q6 : Hid (∀ s, Ext wr s → Ur s g6 68 c6) := fun s e => K6.kept e K6.lt
      have Q8 : Hid (∀ s, Ext wr s → Ur s g8 68 c8) := fun s e => K8.kept e K8.lt
      have QZ : Hid (∀ s, Ext wr s → Ky s (w.heap.size + 1 + 1) zk ∧ Ext w s) := fun s e => by
        have := P3.out s (Below.trans KB (e.mono (Nat.le_of_lt K6.lt)))
        exact ⟨this.2.1, this.2.2.2⟩
      replace n6 := Lib.hid n6
      replace n8 := Lib.hid n8
      have NKC : Hid (∀ (W : World) (es : List Nat), IsN es (mulP (S 255).1 (invF (S 255).2.2.1)) → Calls Tryd.prog 38 #[.agg (ucells es).toArray] W fun e w' => e = .returned (.agg (cellsOf rk).toArray) ∧ Ext W w') := fun W es h => by rw [hrk.out]; exact nkey_calls h
      clear K6 K7 K8 K9 n7 n9 KB P3 BIT S1
      go_wp2_with fail
      refine wp_region_free (R := Ext) Ext.refl (fun _ _ _ => Ext.trans) [0, 1, 2, 3, 4] [5] [0, 0, 2, 7, 15, 31] [true, true, true, true, true, false] [(0, 100, 128), (0, 101, 512), (2, 102, 2535301200456458802993406410752), (5, 103, 6338253001141147007483516026880), (8, 104, 10141204801825835211973625643008), (31, 0, 20282409603651670423947251286048)] (by kernel_rfl) (by kernel_rfl) (by kernel_rfl) (by kernel_rfl) ?_
      refine free_det (fun _ => Ext.refl _) _ rfl (v := .agg (ucells c6).toArray) (d := 100) rfl rfl ?_ ?_
      · intro a_ w_ hev hR hk
        have e6 : a_.eval (.tmp 6) = _ := hk 6 rfl
        exact (exec_load_row rfl e6 (Q6.out w_ (Ext.trans (Ext.refl _).drew hR)) rfl rfl (by rw [S_c6]; rfl))
      refine free_det (fun _ => Ext.refl _) _ rfl (v := .agg (ucells c8).toArray) (d := 101) rfl rfl ?_ ?_
      · intro a_ w_ hev hR hk
        have e8 : a_.eval (.tmp 8) = _ := hk 8 rfl
        exact (exec_load_row rfl e8 (Q8.out w_ (Ext.trans (Ext.refl _).drew hR)) rfl rfl (by rw [S_c8]; rfl))
      refine free_step _ rfl (fun u _ => ∃ es, u = .agg (ucells es).toArray ∧ IsN es (invF (S 255).2.2.1)) (d := 102) rfl (fun _ _ _ h _ => h) rfl ?_ ?_
      · intro a_ w_ hev hR hk K1 hK1
        have e100 : a_.eval (.tmp 100) = _ := hk 100 rfl
        clear hk
        have f100 := ev_get.trans e100
        go_simp
        refine (ninv_calls n8.out).mono ?_
        rintro e_ w2_ ⟨fs_, hf_, rfl, x_⟩
        exact hK1.out _ _ x_ ⟨fs_, rfl, hf_⟩
      refine free_step _ rfl (fun u _ => ∃ es, u = .agg (ucells es).toArray ∧ IsN es (mulP (S 255).1 (invF (S 255).2.2.1))) (d := 103) rfl (fun _ _ _ h _ => h) rfl ?_ ?_
      · intro a_ w_ hev hR hk K1 hK1
        have e99 : a_.eval (.tmp 99) = _ := hk 99 rfl
        obtain ⟨es_101, e101, n101⟩ : ∃ es, a_.eval (.tmp 101) = .agg (ucells es).toArray ∧ IsN es _ := hk 101 rfl
        clear hk
        have f99 := ev_get.trans e99
        have f101 := ev_get.trans e101
        go_simp
        refine (nmul_calls n6.out n101).mono ?_
        rintro e_ w2_ ⟨fs_, hf_, rfl, x_⟩
        exact hK1.out _ _ x_ ⟨fs_, rfl, hf_⟩
      refine free_step _ rfl (fun u _ => u = .agg (cellsOf rk).toArray) (d := 104) rfl (fun _ _ _ h _ => h) rfl ?_ ?_
      · intro a_ w_ hev hR hk K1 hK1
        obtain ⟨es_102, e102, n102⟩ : ∃ es, a_.eval (.tmp 102) = .agg (ucells es).toArray ∧ IsN es _ := hk 102 rfl
        clear hk
        have f102 := ev_get.trans e102
        go_simp
        refine (NKC.out _ _ n102).mono ?_
        rintro e_ w2_ ⟨rfl, x_⟩
        exact hK1.out _ _ x_ rfl
      intro v_ wq_ hR hV_ hN_
      obtain ⟨hv4, hv3, hv2, hv1, hv0, _⟩ := hV_
      replace hv0 : v_ 0 = _ := hv0
      replace hv1 : v_ 1 = _ := hv1
      skip
      skip
      replace hv4 : v_ 4 = _ := hv4
      dsimp only [putE, dOpt]
      obtain ⟨es_2, hv2, hn_2⟩ := hv2
      obtain ⟨es_3, hv3, hn_3⟩ := hv3
      clear hN_
      rw [hv0, hv1, hv2, hv3, hv4]
      simp only [Act.put, List.setIfInBounds_toArray, List.set_cons_zero, List.set_cons_succ]
      clear hv0 hv1 hv2 hv3 hv4
      have kz := Lib.hid (QZ.out wq_ ((Ext.refl _).drew.trans hR))
      refine any_more (z := 5) _ rfl rfl (by kernel_rfl) ?_
      intro K1 hK1
      refine wp_store_row _ _ _ rfl (w.heap.size + 1 + 1) (cellsOf rk).toArray rfl rfl 23 (cellsOf zk).toArray kz.out.1.1 (by rw [S_rk]; rfl) (by rw [S_rk, S_zk]) O_rk ?_
      refine hK1.out _ _ ?_
      clear hK1 K1
      refine any_nil (by kernel_rfl) ?_
      clear hR
      go_wp2_with fail
      (try simp only [Exit.inBlock, Exit.then])
      refine bodyPost_ret (results_cell_row rfl _ _ (w.heap.size + 1 + 1) 23 (cellsOf rk).toArray (0, 0) _ rfl (setRow_heap _ _ _ _ _ _ kz.out.1.1) rfl rfl (by rw [S_rk]; rfl)) rfl ?_
      exact ⟨rfl, below_setRow kz.out.2 (by omega) _⟩
end Go.Proofs.YtfhafednnnfmbaaDoor
