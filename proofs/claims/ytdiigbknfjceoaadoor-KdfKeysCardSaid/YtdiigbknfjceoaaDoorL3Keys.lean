/-
  KdfKeys: any key's keys, for any purposes, are the document's.
-/
import Derived.Test.YtdiigbknfjceoaaDoorAwake3
import Derived.Test.YtdiigbknfjceoaaDoorRefKey
import Derived.Test.YtdiigbknfjceoaaDoorKeysK
namespace Go.Proofs.YtdiigbknfjceoaaDoor
open Go.ChangeShapes Go.WideShapes Go.ChangeAt Go.RowKit Go.Deep

set_option maxRecDepth 100000 in
set_option maxHeartbeats 2000000 in
theorem kdfKeys_calls {A : Option Addr} {n c : Nat} {ks : List UInt8} {l : List (List UInt8)} {w : World} (hk : ks.length = 32) (h : Ss w A n l) (h1 : n ≤ c) (h2 : c ≤ 9223372036854775807) {tg : TypeId × Nat × Nat} (hG : Gl w tg) :
    Calls Tryd.prog 6 #[.agg (cellsOf ks).toArray, .slice A n c] w fun e w' => e = .returned (.bool true) ∧ Ext w w' := by
  have AW := Lib.hid (fun (W : World) (e : Ext w W) => awake_calls (hG.kept e hG.lt))
  have HG : Hid (∀ wr : World, Ext w wr → Gl wr tg) := fun wr e => hG.kept e hG.lt
  have h' := Lib.hid h
  have hln := Lib.hid h.1
  clear h hG
  have ky0 : Hid (Ky (w.alloc (Obj.cells (cellsOf ks).toArray 25)) w.heap.size ks) := Ky.boxed w hk
  by_cases q1 : 20 < n
  · have q1' : decide ((20 : Int) < (n : Int)) = true := decide_eq_true (by omega)
    go_enter Tryd.func6, Tryd.ntmps6
    go_wp2_with fail
    refine (AW.out _ ((Ext.refl w).alloc _)).mono ?_
    rintro e w1 ⟨rfl, e1⟩
    go_wp2_with fail
    go_ret
    exact ⟨rfl, ((Ext.refl w).alloc _).trans e1⟩
  · have q1' : decide ((20 : Int) < (n : Int)) = false := decide_eq_false (by omega)
    have KS : (cellsOf ks).toArray.size = 32 := by simp [cellsOf_len, hk]
    go_enter Tryd.func6, Tryd.ntmps6
    go_wp2_with fail
    refine (AW.out _ ((Ext.refl w).alloc _)).mono ?_
    rintro e w1 ⟨rfl, e1⟩
    have E1 : Hid (Ext w w1) := ((Ext.refl w).alloc _).trans e1
    have y1 := Lib.hid (ky0.out.ext e1)
    have s1 := Lib.hid (h'.out.ext E1.out)
    clear AW ky0 e1 h'
    go_wp2_with fail
    go_loopw [6] (fun v wr => ∃ k : Nat, k ≤ n ∧ v = .int .i64 (k : Int) ∧ (∀ j, j < k → (l.getD j []).length ≤ 300) ∧ wr = w1) (fun v _ => n - (intOf v).toNat)
    case atStart => exact ⟨0, Nat.zero_le _, rfl, fun j hj => absurd hj (by omega), rfl⟩
    case round =>
      obtain ⟨k, hkn, rfl, hv, rfl⟩ := hrel
      replace hv := Lib.hid hv
      by_cases hlt : k < n
      · obtain ⟨b, off, rfl, hb, hc⟩ := s1.out.2 (by omega)
        have ck := hc k hlt
        obtain ⟨s, hs⟩ : ∃ s, s = l.getD k [] := ⟨_, rfl⟩
        rw [← hs] at ck
        have ss := strL_size s
        obtain ⟨sA, hsA⟩ : ∃ sA, sA = strL s := ⟨_, rfl⟩
        rw [← hsA] at ck ss
        replace hs := Lib.hid hs
        replace hsA := Lib.hid hsA
        clear hc
        by_cases q3 : 300 < s.length
        · have q3' : decide ((300 : Int) < (sA.size : Int)) = true := decide_eq_true (by omega)
          clear ss
          go_wp2_with fail
          go_ret
          exact ⟨rfl, E1.out⟩
        · have q3' : decide ((300 : Int) < (sA.size : Int)) = false := decide_eq_false (by omega)
          clear ss
          go_wp2_with fail
          refine ⟨⟨k + 1, by omega, by go_num, fun j hj => ?_, trivial⟩, by simp [intOf]; omega⟩
          by_cases e : j = k
          · rw [e, ← hs.out]; omega
          · exact hv.out j (by omega)
      · obtain rfl : k = n := by omega
        have hp : ∀ j, (l.getD j []).length ≤ 300 := fun j => by
          by_cases hj : j < k
          · exact hv.out j hj
          · have := hln.out
            rw [List.getD_eq_getElem?_getD, List.getElem?_eq_none (by omega)]; simp
        have KEYS : Hid (Calls Tryd.prog 25 #[.agg (cellsOf ks).toArray, .slice A k c] wr (RetKs (l.map (keyL ks)) wr)) := keys_calls hk s1.out (by omega) (fun j => Nat.le_trans (hp j) (by omega)) (HG.out _ E1.out)
        have RKEY : Hid (∀ (W : World) (j : Nat), Calls Tryd.prog 26 #[.agg (cellsOf ks).toArray, .string (strL (l.getD j []))] W fun e w' => e = .returned (.agg (cellsOf (keyL ks (l.getD j []))).toArray) ∧ Ext W w') := fun W j => refKey_calls hk (Nat.le_trans (hp j) (by omega))
        clear hv hp
        go_wp2_with (refine wpList_load_row rfl 25 _ rfl w.heap.size rfl 25 (cellsOf ks).toArray (0, 0) _ y1.out.1 rfl rfl (by rw [KS]; rfl) ?_; simp only [Act.put, List.setIfInBounds_toArray, List.set_cons_zero, List.set_cons_succ])
        refine KEYS.out.mono ?_
        rintro e w2 ⟨g, rfl, hg, kr, e2⟩
        have hl2 : (l.map (keyL ks)).length = k := by rw [List.length_map, hln.out]
        rw [hl2]
        replace hl2 := Lib.hid hl2
        have E2 : Hid (Ext w w2) := E1.out.trans e2
        have y2 := Lib.hid (y1.out.ext e2)
        have s2 := Lib.hid (s1.out.ext e2)
        replace kr := Lib.hid kr
        clear KEYS E1 y1 s1 e2 hg
        go_wp2_with fail
        go_loopw [8] (fun v wr => ∃ i : Nat, i ≤ k ∧ v = .int .i64 (i : Int) ∧ Ext w2 wr) (fun v _ => k - (intOf v).toNat)
        case atStart => exact ⟨0, Nat.zero_le _, rfl, Ext.refl _⟩
        case round =>
          obtain ⟨i, hi, rfl, he⟩ := hrel
          by_cases hlt : i < k
          · obtain ⟨b, off, rfl, hb, hc⟩ := s2.out.2 (by omega)
            have CK : Hid (∀ w', Ext w2 w' → w'.cell? ⟨b, off + i, none⟩ = some (.string (strL (l.getD i [])))) := fun w' e => (e.cell hb).trans (hc i hlt)
            have gK : (l.map (keyL ks)).getD i [] = keyL ks (l.getD i []) := by
              have := hln.out
              simp [List.getD, show i < l.length by omega]
            have RR : Hid (∀ w', Ext w2 w' → ∀ q v, (cellsOf (keyL ks (l.getD i [])))[q]? = some v → w'.cell? ⟨g, i * 32 + q, none⟩ = some v) := fun w' e q v hv => by
              rw [← gK] at hv
              have := (kr.out.ext e).row (j := i) (by rw [hl2.out]; exact hlt) q v hv
              rwa [Nat.mul_comm] at this
            have RK := Lib.hid (fun W => RKEY.out W i)
            have K0 := keyL_len ks (l.getD i [])
            generalize keyL ks (l.getD i []) = k0 at *
            generalize strL (l.getD i []) = sA at *
            have C0 : (cellsOf k0).length = 32 := by rw [cellsOf_len, K0]
            have ik : (i : Int) < (k : Int) := by omega
            have he' := Lib.hid he
            clear hc gK he
            go_wp2_with fail
            refine wp_region_seq (R := Ext) Ext.refl (fun _ _ _ => Ext.trans) [0, 1, 2, 3, 4, 5, 6, 7, 8, 9, 10] [9] [(0, 42, 256), (0, 43, 512), (3, 44, 13194139533312), (4, 45, 17592186044416), (0, 46, 8), (0, 47, 4), (0, 48, 512), (96, 49, 422212465065984), (128, 50, 562949953421312), (272, 51, 1196268651020288), (520, 52, 2286984185774080)] (by kernel_rfl) (by kernel_rfl) (by kernel_rfl) rfl (by kernel_rfl) (by kernel_rfl) (fun _ _ d _ _ h => by cases d <;> exact h) ?_
            iterate 3 (first | (refine seq_read (fun _ => True) (fun _ _ => trivial) _ (v := ?_) rfl rfl (by rfl) ?_ ?_; rotate_left; (· intro w' hF; go_simp; (try with_reducible rfl)); simp only [Act.put, List.setIfInBounds_toArray, List.set_cons_zero, List.set_cons_succ]) | (refine seq_skip _ rfl rfl (by rfl) ?_; simp only [Act.put, List.setIfInBounds_toArray, List.set_cons_zero, List.set_cons_succ]))
            refine seq_read (fun w' => ∀ j v, (cellsOf k0)[j]? = some v → w'.cell? ⟨g, (i*32) + j, none⟩ = some v) (fun w' e => RR.out w' (he'.out.drew.trans e)) _ (v := .agg (cellsOf k0).toArray) rfl rfl (by rfl) (fun w' hF => exec_load_mid rfl rfl hF rfl rfl (by rw [C0]; rfl)) ?_
            simp only [Act.put, List.setIfInBounds_toArray, List.set_cons_zero, List.set_cons_succ]
            refine seq_read (fun w' => w'.heap[w.heap.size]? = some (.cells (cellsOf ks).toArray 25 (0, 0))) (fun w' e => (y2.out.ext (he'.out.drew.trans e)).1) _ (v := .agg (cellsOf ks).toArray) rfl rfl (by rfl) (fun w' hF => exec_load_row rfl rfl hF rfl rfl (by rw [KS]; rfl)) ?_
            simp only [Act.put, List.setIfInBounds_toArray, List.set_cons_zero, List.set_cons_succ]
            iterate 4 (first | (refine seq_read _ (fun w' e => CK.out w' (he'.out.drew.trans e)) _ (v := ?_) rfl rfl (by rfl) ?_ ?_; rotate_left; (· intro w' hF; go_simp; (try with_reducible rfl)); simp only [Act.put, List.setIfInBounds_toArray, List.set_cons_zero, List.set_cons_succ]) | (refine seq_skip _ rfl rfl (by rfl) ?_; simp only [Act.put, List.setIfInBounds_toArray, List.set_cons_zero, List.set_cons_succ]))
            refine seq_do _ rfl rfl (by rfl) (fun K hK => ?_)
            go_simp
            refine (RK.out _).mono ?_
            rintro e w4 ⟨rfl, e4⟩
            refine hK.out _ _ e4 ?_
            clear hK K
            try simp only [Act.put, List.setIfInBounds_toArray, List.set_cons_zero, List.set_cons_succ]
            refine seq_read (fun _ => True) (fun _ _ => trivial) _ (v := .bool false) rfl rfl (by rfl) (fun w' _ => exec_neq_keyB (show (!decide (k0 = k0)) = false by simp) K0 K0 rfl rfl rfl) ?_
            simp only [Act.put, List.setIfInBounds_toArray, List.set_cons_zero, List.set_cons_succ]
            refine seq_done ?_
            have E4 : Hid (Ext w2 w4) := he'.out.drew.trans e4
            clear e4 he' RK CK RR
            go_wp2_with fail
            exact ⟨⟨i + 1, by omega, by go_num, E4.out⟩, by simp [intOf]; omega⟩
          · have hEE := Lib.hid (E2.out.trans he)
            obtain rfl : i = k := by omega
            go_wp2_with fail
            go_ret
            exact ⟨rfl, hEE.out⟩
end Go.Proofs.YtdiigbknfjceoaaDoor
