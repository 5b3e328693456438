import Derived.Test.YtojgmgghlkpfoaaRfOf12
import Derived.Test.YtojgmgghlkpfoaaPkE
/-
  palfreyref12.Read, and head.Read in the same words.
-/
namespace Go.Proofs.Ytojgmgghlkpfoaa
open Go.ChangeShapes Go.WideShapes Go.ChangeAt Go.RowKit Go.Deep
set_option maxRecDepth 100000

def okY (xs : List UInt8) : Bool := okH (numN (xs.drop 32) 4 : Int) (numN (xs.drop 36) 4 : Int)
/-- The number of the error that Read hands back. -/
def reH (xs : List UInt8) : Int := if xs.length < 40 then 3 else if decide (xs.length = 40) && okY xs then 0 else 2
/-- The head's cells that it hands back. -/
def rhC (xs : List UInt8) : List Value := if reH xs = 0 then hdC (xs.take 32) (numN (xs.drop 32) 4 : Int) (numN (xs.drop 36) 4 : Int) else hdC (List.replicate 32 0) 0 0
theorem reH_a {xs : List UInt8} (h : xs.length < 40) : reH xs = 3 ∧ rhC xs = hdC (List.replicate 32 0) 0 0 := by
  have e : reH xs = 3 := if_pos h
  exact ⟨e, by unfold rhC; rw [e]; rfl⟩
theorem reH_b {xs : List UInt8} (h : 40 < xs.length) : reH xs = 2 ∧ rhC xs = hdC (List.replicate 32 0) 0 0 := by
  have e : reH xs = 2 := by unfold reH; rw [if_neg (by omega), decide_eq_false (by omega)]; rfl
  exact ⟨e, by unfold rhC; rw [e]; rfl⟩
theorem reH_c {xs : List UInt8} (h : xs.length = 40) (k : okY xs = false) : reH xs = 2 ∧ rhC xs = hdC (List.replicate 32 0) 0 0 := by
  have e : reH xs = 2 := by unfold reH; rw [if_neg (by omega), k, Bool.and_false]; rfl
  exact ⟨e, by unfold rhC; rw [e]; rfl⟩
theorem reH_d {xs : List UInt8} (h : xs.length = 40) (k : okY xs = true) : reH xs = 0 ∧ rhC xs = hdC (xs.take 32) (numN (xs.drop 32) 4 : Int) (numN (xs.drop 36) 4 : Int) := by
  have e : reH xs = 0 := by unfold reH; rw [if_neg (by omega), k, decide_eq_true h]; rfl
  exact ⟨e, by unfold rhC; rw [if_pos e]⟩
theorem rhC_len {xs : List UInt8} : (rhC xs).length = 34 := by
  unfold rhC
  split
  · rename_i h
    refine hdC_len ?_ _ _
    unfold reH at h
    split at h
    · cases h
    · rw [List.length_take]; omega
  · exact hdC_len rfl 0 0
theorem hd_one {pk : List UInt8} {p n : Int} : (hdC pk p n).toArray.all (·.oneCell') = true := one_cells fun v hv => by
  rcases List.mem_append.1 hv with q | q
  · exact one_mem _ v q
  · simp at q; rcases q with rfl | rfl <;> rfl
theorem head_zero : Try.prog.built 25 [] = some (hdC (List.replicate 32 0) 0 0).toArray := by kernel_rfl
/-- head.Read, whole. -/
theorem hread_calls {w : World} {n c : Nat} {A : Option Addr} {xs : List UInt8} (hb : Bs w A n c xs) :
    Calls Try.prog 15 #[.slice A n c] w fun e w' => e = .returned (.tuple #[.agg (rhC xs).toArray, .int .i64 (reH xs)]) ∧ Ext w w' := by
  have lx := hb.1
  rcases Nat.lt_or_ge n 40 with h | h
  · obtain ⟨e1, e2⟩ := reH_a (xs := xs) (by omega)
    rw [e1, e2]
    exact read_short h
  rcases Nat.lt_or_ge 40 n with h2 | h2
  · obtain ⟨e1, e2⟩ := reH_b (xs := xs) (by omega)
    rw [e1, e2]
    exact read_long hb h2
  obtain rfl : n = 40 := by omega
  rcases hk : okY xs with _ | _
  · obtain ⟨e1, e2⟩ := reH_c (xs := xs) (by omega) hk
    rw [e1, e2]
    exact read_form hb hk
  · obtain ⟨e1, e2⟩ := reH_d (xs := xs) (by omega) hk
    rw [e1, e2]
    exact read_ok hb hk
set_option maxHeartbeats 4000000 in
theorem rread_calls {w : World} {n c : Nat} {A : Option Addr} {xs : List UInt8} (hb : Bs w A n c xs) :
    Calls Try.prog 16 #[.slice A n c] w fun e w' => e = .returned (.tuple #[.agg (rhC xs).toArray, .int .i64 (reH xs)]) ∧ Ext w w' := by
  have lx := hb.1
  have hle := hb.le
  have hcap := hb.cap
  have hal := head_alloc
  have hbz := Lib.hid head_zero
  have L_hz : (hdC (List.replicate 32 0) 0 0).length = 34 := hdC_len rfl 0 0
  have O_hz : Hid ((hdC (List.replicate 32 0) 0 0).toArray.all (·.oneCell') = true) := hd_one
  obtain ⟨r, hr⟩ : ∃ r, r = w.heap.size := ⟨_, rfl⟩
  have OFC : Hid (∀ W, Ext w W → 40 ≤ n → Calls Try.prog 39 #[.slice A n c] W fun e w' => e = .returned (.agg (hdC (xs.take 32) (numN (xs.drop 32) 4 : Int) (numN (xs.drop 36) 4 : Int)).toArray) ∧ Ext W w') := fun W e h => rof12_calls (hb.ext e) h
  have RI : Hid (∀ W, 40 ≤ n → Calls Try.prog 32 #[.agg (hdC (xs.take 32) (numN (xs.drop 32) 4 : Int) (numN (xs.drop 36) 4 : Int)).toArray] W fun e w' => e = .returned (.bool (okY xs)) ∧ Ext W w') := fun W h => right_calls (by rw [List.length_take]; omega)
  have RA : Hid (n < 40 → reH xs = 3 ∧ rhC xs = hdC (List.replicate 32 0) 0 0) := fun h => reH_a (by omega)
  have RB : Hid (40 < n → reH xs = 2 ∧ rhC xs = hdC (List.replicate 32 0) 0 0) := fun h => reH_b (by omega)
  have RC : Hid (n = 40 → okY xs = false → reH xs = 2 ∧ rhC xs = hdC (List.replicate 32 0) 0 0) := fun h => reH_c (by omega)
  have RD : Hid (n = 40 → okY xs = true → reH xs = 0 ∧ rhC xs = hdC (xs.take 32) (numN (xs.drop 32) 4 : Int) (numN (xs.drop 36) 4 : Int)) := fun h => reH_d (by omega)
  have L_hr : Hid (40 ≤ n → (hdC (xs.take 32) (numN (xs.drop 32) 4 : Int) (numN (xs.drop 36) 4 : Int)).length = 34) := fun h => hdC_len (by rw [List.length_take]; omega) _ _
  have O_hr : Hid ((hdC (xs.take 32) (numN (xs.drop 32) 4 : Int) (numN (xs.drop 36) 4 : Int)).toArray.all (·.oneCell') = true) := hd_one
  clear hb lx
  generalize hdC (xs.take 32) (numN (xs.drop 32) 4 : Int) (numN (xs.drop 36) 4 : Int) = hr_ at *
  generalize hdC (List.replicate 32 0) 0 0 = hz at *
  have S_hz : hz.toArray.size = 34 := by rw [List.size_toArray, L_hz]
  have B0 : Hid (Cb (w.alloc (Obj.cells hz.toArray 25)) r 25 hz ∧ Ext w (w.alloc (Obj.cells hz.toArray 25))) := by rw [hr]; exact ⟨Cb.new _ _ _, (Ext.refl w).alloc _⟩
  go_enter Try.func16, Try.ntmps16
  go_upto_region 1 with fail
  refine wp_gen (fun W => Cb W r 25 hz ∧ Ext w W) B0.out ?_
  rw [← hr]
  have wr_ : w.heap.size ≤ r := Nat.le_of_eq hr.symm
  clear B0
  replace hr := Lib.hid hr
  rintro w0 ⟨k0, x0⟩
  replace k0 := Lib.hid k0
  replace x0 := Lib.hid x0
  rcases Nat.lt_or_ge n 40 with h1 | h1
  · have u1 : decide ((n : Int) < 40) = true := decide_eq_true (by omega)
    have E := Lib.hid (RA.out h1)
    clear RA RB RC RD OFC RI O_hr
    go_wp2_with (first
      | (refine wpList_build_as rfl _ _ rfl hz.toArray (by simp only [List.map_toArray, List.map_nil]; exact hbz.out) ?_; simp only [Act.put, List.setIfInBounds_toArray, List.set_cons_zero, List.set_cons_succ])
      | (refine wpList_store_row rfl 25 _ _ rfl r hz.toArray rfl rfl 25 _ k0.out (by rw [S_hz]; rfl) rfl O_hz.out ?_; simp only [Act.put, List.setIfInBounds_toArray, List.set_cons_zero, List.set_cons_succ]))
    (try simp only [Exit.inBlock, Exit.then])
    refine bodyPost_ret (results_row_tmp rfl _ _ r 25 hz.toArray (0, 0) _ _ rfl rfl (setRow_heap _ _ _ _ _ _ k0.out) rfl rfl (by rw [S_hz]; rfl)) rfl ?_
    exact ⟨by rw [E.out.1, E.out.2]; rfl, below_setRow x0.out wr_ _⟩
  have u1 : decide ((n : Int) < 40) = false := decide_eq_false (by omega)
  have OC := Lib.hid (OFC.out w0 x0.out h1)
  replace L_hr := L_hr.out h1
  have S_hr : hr_.toArray.size = 34 := by rw [List.size_toArray, L_hr]
  have RIc := Lib.hid (fun W => RI.out W h1)
  clear OFC RA RI
  go_wp2_with fail
  refine OC.out.mono ?_
  rintro e u_ ⟨rfl, e1⟩
  have a1 : Hid ((u_.alloc (Obj.cells hz.toArray 25)).heap[u_.heap.size]? = some (.cells hz.toArray 25 (0, 0))) := heap_alloc_new _ _
  have E_ : Ext w0 ((u_.alloc (Obj.cells hz.toArray 25)).setRow u_.heap.size hr_.toArray) := e1.trans (below_setRow ((Ext.refl u_).alloc _) (Nat.le_refl _) _)
  go_upto_region 4 with (refine wpList_store_row rfl 25 _ _ rfl u_.heap.size hr_.toArray rfl rfl 25 _ a1.out (by rw [S_hr]; rfl) (by rw [S_hr, S_hz]) O_hr.out ?_; simp only [Act.put])
  obtain ⟨g, hg_⟩ : ∃ g, g = u_.heap.size := ⟨_, rfl⟩
  refine wp_gen (fun W => Cb W g 25 hr_ ∧ Cb W r 25 hz ∧ Ext w W) ⟨by rw [hg_]; exact setRow_heap _ _ _ _ _ _ a1.out, k0.out.ext E_, x0.out.trans E_⟩ ?_
  rw [← hg_]
  clear hg_ a1 E_ e1 k0 x0 OC
  rintro w1 ⟨k1, k2, x1⟩
  replace k1 := Lib.hid k1
  replace k2 := Lib.hid k2
  replace x1 := Lib.hid x1
  rcases Nat.lt_or_ge 40 n with h2 | h2
  · have u2 : decide ((n : Int) > 40) = true := decide_eq_true (by omega)
    have E := Lib.hid (RB.out h2)
    clear RB RC RD RIc
    go_wp2_with (first
      | (refine wpList_build_as rfl _ _ rfl hz.toArray (by simp only [List.map_toArray, List.map_nil]; exact hbz.out) ?_; simp only [Act.put, List.setIfInBounds_toArray, List.set_cons_zero, List.set_cons_succ])
      | (refine wpList_store_row rfl 25 _ _ rfl r hz.toArray rfl rfl 25 _ k2.out (by rw [S_hz]; rfl) rfl O_hz.out ?_; simp only [Act.put, List.setIfInBounds_toArray, List.set_cons_zero, List.set_cons_succ]))
    (try simp only [Exit.inBlock, Exit.then])
    refine bodyPost_ret (results_row_tmp rfl _ _ r 25 hz.toArray (0, 0) _ _ rfl rfl (setRow_heap _ _ _ _ _ _ k2.out) rfl rfl (by rw [S_hz]; rfl)) rfl ?_
    exact ⟨by rw [E.out.1, E.out.2]; rfl, below_setRow x1.out wr_ _⟩
  have u2 : decide ((n : Int) > 40) = false := decide_eq_false (by omega)
  have hn : Hid (n = 40) := by unfold Hid; omega
  go_wp2_with (refine wpList_load_rowW rfl 25 _ rfl g rfl 25 hr_.toArray (0, 0) _ k1.out rfl rfl (by rw [S_hr]; rfl) ?_; simp only [Act.put, List.setIfInBounds_toArray, List.set_cons_zero, List.set_cons_succ])
  refine (RIc.out _).mono ?_
  rintro e w2 ⟨rfl, e2⟩
  replace k1 := Lib.hid (k1.out.ext e2)
  replace k2 := Lib.hid (k2.out.ext e2)
  replace x1 := Lib.hid (x1.out.trans e2)
  clear RIc e2
  obtain ⟨b, hb⟩ : ∃ b, b = okY xs := ⟨_, rfl⟩
  rw [← hb]
  rcases b with _ | _
  · have E := Lib.hid (RC.out hn.out hb.symm)
    clear hb RB RC RD
    go_wp2_with (first
      | (refine wpList_build_as rfl _ _ rfl hz.toArray (by simp only [List.map_toArray, List.map_nil]; exact hbz.out) ?_; simp only [Act.put, List.setIfInBounds_toArray, List.set_cons_zero, List.set_cons_succ])
      | (refine wpList_store_row rfl 25 _ _ rfl r hz.toArray rfl rfl 25 _ k2.out (by rw [S_hz]; rfl) rfl O_hz.out ?_; simp only [Act.put, List.setIfInBounds_toArray, List.set_cons_zero, List.set_cons_succ]))
    (try simp only [Exit.inBlock, Exit.then])
    refine bodyPost_ret (results_row_tmp rfl _ _ r 25 hz.toArray (0, 0) _ _ rfl rfl (setRow_heap _ _ _ _ _ _ k2.out) rfl rfl (by rw [S_hz]; rfl)) rfl ?_
    exact ⟨by rw [E.out.1, E.out.2]; rfl, below_setRow x1.out wr_ _⟩
  · have E := Lib.hid (RD.out hn.out hb.symm)
    clear hb RB RC RD
    go_wp2_with (first
      | (refine wpList_load_row rfl 25 _ rfl g rfl 25 hr_.toArray (0, 0) _ k1.out rfl rfl (by rw [S_hr]; rfl) ?_; simp only [Act.put, List.setIfInBounds_toArray, List.set_cons_zero, List.set_cons_succ])
      | (refine wpList_store_row rfl 25 _ _ rfl r hr_.toArray rfl rfl 25 _ k2.out (by rw [S_hr]; rfl) (by rw [S_hr, S_hz]) O_hr.out ?_; simp only [Act.put, List.setIfInBounds_toArray, List.set_cons_zero, List.set_cons_succ]))
    (try simp only [Exit.inBlock, Exit.then])
    refine bodyPost_ret (results_row_tmp rfl _ _ r 25 hr_.toArray (0, 0) _ _ rfl rfl (setRow_heap _ _ _ _ _ _ k2.out) rfl rfl (by rw [S_hr]; rfl)) rfl ?_
    exact ⟨by rw [E.out.1, E.out.2]; rfl, below_setRow x1.out wr_ _⟩
end Go.Proofs.Ytojgmgghlkpfoaa
