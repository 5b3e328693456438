/-
  FieldInverts: what any number times comes to 1, and the sum of any numbers.
-/
import Derived.Test.YteognebhlehjlaaDoorAwake6
import Derived.Test.YteognebhlehjlaaDoorFldBack
import Derived.Test.YteognebhlehjlaaDoorSeq
import Derived.Test.YteognebhlehjlaaDoorSeqZ
import Derived.Test.YteognebhlehjlaaDoorRfKey
import Derived.Test.YteognebhlehjlaaDoorRfAdd
import Derived.Test.YteognebhlehjlaaDoorRfOf
import Derived.Test.YteognebhlehjlaaDoorRfInv
import Derived.Test.YteognebhlehjlaaDoorTro
import Derived.Test.YteognebhlehjlaaDoorOwnC
import Derived.Test.YteognebhlehjlaaDoorFldSum
import Derived.Test.YteognebhlehjlaaDoorL6Nought
namespace Go.Proofs.YteognebhlehjlaaDoor
open Go.ChangeShapes Go.WideShapes Go.ChangeAt Go.RowKit Go.Deep
set_option maxRecDepth 100000

theorem infoEl : (Tryd.prog.info? 28).map (fun i => (i.zero, i.size, i.bytes)) = some (some (.agg (wcells zw8).toArray), 8, 32) := by kernel_rfl
/-- The sum of the first k keys' numbers, in digits. -/
def sumM (l : List (List UInt8)) : Nat → Nat
  | 0 => 0
  | k + 1 => addN (sumM l k) (ofM (l.getD k []))
theorem sumM_lt (l : List (List UInt8)) : ∀ k, sumM l k < B16
  | 0 => by rw [sumM]; decide +kernel
  | _ + 1 => addN_lt _ _
theorem sumM_mod (l : List (List UInt8)) : ∀ k, sumM l k % P25 = sumF (fun j => ofV (l.getD j [])) k
  | 0 => by rw [sumM, sumF]; exact Nat.zero_mod _
  | k + 1 => by rw [sumM, sumF, addN_mod (sumM_lt l k) (ofM_lt _), Nat.add_mod, sumM_mod l k, ofV_ofM, Nat.add_mod_mod]
/-- The first k numbers' cells. -/
def elL (f : Nat → Nat) (k : Nat) : List (List Value) := (List.range k).map fun j => wcells (lbs 8 (f j))
theorem elL_succ (f : Nat → Nat) (k : Nat) : elL f (k + 1) = elL f k ++ [wcells (lbs 8 (f k))] := by simp [elL, List.range_succ]
theorem wc8 {v : List Nat} (h : v.length = 8) : (wcells v).length = 8 := by simpa using wcells_size h
theorem els_of_own {B n c : Nat} {w : World} {A : Option Addr} {f : Nat → Nat} (h : OwnC B w 28 8 A n c (elL f n)) (h0 : 0 < n) : ∃ b, A = some ⟨b, 0, none⟩ ∧ Els w b f n := by
  obtain ⟨b, hA, hb, _, hc⟩ := h.cells h0
  refine ⟨b, hA, hb, fun j hj i v hv => hc _ _ ?_⟩
  have hi : i < 8 := by
    have := (List.getElem?_eq_some_iff.1 hv).1
    rwa [wc8 (lbs_len _ _)] at this
  rw [flat_at h.2.1 (by simp [elL, hj]) hi]
  simp [elL, hj, hv]

set_option maxHeartbeats 1000000 in
theorem fieldInverts_out {ka : List UInt8} {A : Option Addr} {n c : Nat} {w : World} (hn : 30 < n) (hnc : n ≤ c) (hc : c ≤ maxLen) {tg : TypeId × Nat × Nat} (hG : Gp w tg) :
    Calls Tryd.prog 4 #[.agg (cellsOf ka).toArray, .slice A n c] w fun e w' => e = .returned (.bool true) ∧ Ext w w' := by
  unfold maxLen at hc
  have AW : Hid (∀ W, Ext w W → Calls Tryd.prog 9 #[] W fun e w' => e = .returned (.bool true) ∧ Ext W w') := fun W e => awake6_calls (hG.ext e)
  clear hG
  generalize (cellsOf ka).toArray = KA at *
  have t1 : decide (30 < (n : Int)) = true := decide_eq_true (by omega)
  go_enter Tryd.func4, Tryd.ntmps4
  go_wp2_with fail
  refine (AW.out _ ((Ext.refl w).alloc _)).mono ?_
  rintro e w1 ⟨rfl, e1⟩
  go_wp2_with fail
  go_ret
  exact ⟨rfl, ((Ext.refl w).alloc _).trans e1⟩

set_option maxHeartbeats 8000000 in
theorem fieldInverts_in {ka : List UInt8} {A : Option Addr} {n c : Nat} {l : List (List UInt8)} {w : World} (ha : ka.length = 32) (hK : Kx w A n l) (hn : n ≤ 30) (hnc : n ≤ c) (hc : c ≤ maxLen) {tg : TypeId × Nat × Nat} (hG : Gp w tg) :
    Calls Tryd.prog 4 #[.agg (cellsOf ka).toArray, .slice A n c] w fun e w' => e = .returned (.bool true) ∧ Ext w w' := by
  unfold maxLen at hc
  have AW : Hid (∀ W, Ext w W → Calls Tryd.prog 9 #[] W fun e w' => e = .returned (.bool true) ∧ Ext W w') := fun W e => awake6_calls (hG.ext e)
  obtain ⟨x, hx⟩ : ∃ x, x = ofV ka := ⟨_, rfl⟩
  have xp : x < P25 := by rw [hx]; exact ofV_lt ka
  obtain ⟨m, hm⟩ : ∃ x, x = ofM ka := ⟨_, rfl⟩
  have mp : m < B16 := by rw [hm]; exact ofM_lt ka
  have mx : m % P25 = x := by rw [hm, hx]; exact (ofV_ofM ka).symm
  have OFA : Hid (∀ W, Ext w W → Calls Tryd.prog 10 #[.agg (cellsOf (ka)).toArray] W fun e w' => e = .returned (.agg (wcells (lbs 8 (x))).toArray) ∧ Ext W w') := fun W e => by
    rw [hx]; exact of_calls ha (hG.ext e)
  have IX : Hid (∀ W, Ext w W → Calls Tryd.prog 20 #[.agg (wcells (lbs 8 (x))).toArray] W fun e w' => e = .returned (.agg (wcells (lbs 8 (invF x))).toArray) ∧ Ext W w') := fun W e => by
    exact inv_calls xp (hG.ext e)
  have KI : Hid (∀ W, Ext w W → Calls Tryd.prog 12 #[.agg (wcells (lbs 8 (invF x))).toArray] W fun e w' => e = .returned (.agg (cellsOf (kL (invF x))).toArray) ∧ Ext W w') := fun W e => by
    exact ekey_calls
  have RFA : Hid (∀ W, Ext w W → Calls Tryd.prog 11 #[.agg (cellsOf (ka)).toArray] W fun e w' => e = .returned (.agg (ucells (dgs 16 (m))).toArray) ∧ Ext W w') := fun W e => by
    rw [hm]; exact rfof_calls ha
  have RI : Hid (∀ W, Ext w W → Calls Tryd.prog 21 #[.agg (ucells (dgs 16 (m))).toArray] W fun e w' => ∃ nz : List Nat, (∀ W, Ext w W → Calls Tryd.prog 13 #[.agg (ucells nz).toArray] W fun e w' => e = .returned (.agg (cellsOf (kL (invF x))).toArray) ∧ Ext W w') ∧ e = .returned (.agg (ucells nz).toArray) ∧ Ext W w') := fun W e => by
    refine (rfinv_calls mp).mono ?_
    rintro e w' ⟨z, hz, hzm, rfl, e1⟩
    refine ⟨dgs 16 z, fun W _ => ?_, rfl, e1⟩
    have := rfkey_calls (w := W) hz
    rw [hzm, mx] at this
    exact this
  obtain ⟨f, hf⟩ : ∃ f : Nat → Nat, f = fun j => ofV (l.getD j []) := ⟨_, rfl⟩
  have fp : ∀ j, f j < P25 := fun j => by rw [hf]; exact ofV_lt _
  have SM : Hid (∀ k, sumM l k % P25 = sumF f k) := fun k => by rw [hf]; exact sumM_mod l k
  have fo : ∀ j, f j = ofV (l.getD j []) := fun j => by rw [hf]
  have LK : Hid (∀ j, j < n → (l.getD j []).length = 32) := fun j hj => by
    have hl := hK.1
    exact hK.2.1 _ (by simp [List.getD, show j < l.length by omega])
  have OJ : Hid (∀ j W, j < n → Ext w W → Calls Tryd.prog 10 #[.agg (cellsOf (l.getD j [])).toArray] W fun e w' => e = .returned (.agg (wcells (lbs 8 (f j))).toArray) ∧ Ext W w') := fun j W hj e => by
    rw [fo]; exact of_calls (LK.out j hj) (hG.ext e)
  have NJ : Hid (∀ j W, j < n → Calls Tryd.prog 11 #[.agg (cellsOf (l.getD j [])).toArray] W fun e w' => e = .returned (.agg (ucells (dgs 16 (ofM (l.getD j [])))).toArray) ∧ Ext W w') := fun j W hj => rfof_calls (LK.out j hj)
  have AJ : Hid (∀ j W, Calls Tryd.prog 15 #[.agg (ucells (dgs 16 (sumM l j))).toArray, .agg (ucells (dgs 16 (ofM (l.getD j [])))).toArray] W fun e w' => e = .returned (.agg (ucells (dgs 16 (sumM l (j + 1)))).toArray) ∧ Ext W w') := fun j W => rfadd_calls
  have KS : Hid (∀ W, Ext w W → Calls Tryd.prog 12 #[.agg (wcells (lbs 8 (sumF f n))).toArray] W fun e w' => e = .returned (.agg (cellsOf (kL (sumF f n))).toArray) ∧ Ext W w') := fun W e => ekey_calls
  have KN : Hid (∀ W, Ext w W → Calls Tryd.prog 13 #[.agg (ucells (dgs 16 (sumM l n))).toArray] W fun e w' => e = .returned (.agg (cellsOf (kL (sumF f n))).toArray) ∧ Ext W w') := fun W e => by
    have := rfkey_calls (w := W) (sumM_lt l n)
    rw [SM.out] at this
    exact this
  have SC : Hid (∀ W (B : Nat) A c, Ext w W → OwnC B W 28 8 A n c (elL f n) → Calls Tryd.prog 22 #[.slice A n c] W fun e w' => e = .returned (.agg (wcells (lbs 8 (sumF f n))).toArray) ∧ Ext W w') := fun W B A c e h => by
    by_cases h0 : n = 0
    · subst h0
      rcases h.1.2 with ⟨hv, _⟩ | ⟨g, cap, cur, hv, hb, hg, hnc, hcm, hcs, htk⟩
      · rw [hv]; exact sum_nil
      · rw [hv]
        exact sum_calls (by omega) (by omega) hcm (fun j hj => absurd hj (by omega)) ⟨heap_lt hg, fun j hj => absurd hj (by omega)⟩ (hG.ext e)
    · obtain ⟨b, rfl, hE⟩ := els_of_own h (by omega)
      have hcap := h.cap
      exact sum_calls (by omega) hcap.1 hcap.2 (fun j _ => fp j) hE (hG.ext e)
  clear SM hf fo fp hG hx hm xp mp mx
  obtain ⟨ks, hks⟩ : ∃ g : Nat → List UInt8, g = fun j => l.getD j [] := ⟨_, rfl⟩
  have hks' : ∀ j, l.getD j [] = ks j := fun j => by rw [hks]
  obtain ⟨fe, hfe⟩ : ∃ g : Nat → List Nat, g = fun j => lbs 8 (f j) := ⟨_, rfl⟩
  have hfe' : ∀ j, lbs 8 (f j) = fe j := fun j => by rw [hfe]
  obtain ⟨fd, hfd⟩ : ∃ g : Nat → List Nat, g = fun j => dgs 16 (ofM (ks j)) := ⟨_, rfl⟩
  have hfd' : ∀ j, dgs 16 (ofM (ks j)) = fd j := fun j => by rw [hfd]
  obtain ⟨fs, hfs⟩ : ∃ g : Nat → List Nat, g = fun j => dgs 16 (sumM l j) := ⟨_, rfl⟩
  have hfs' : ∀ j, dgs 16 (sumM l j) = fs j := fun j => by rw [hfs]
  have L_fe : Hid (∀ j, (fe j).length = 8) := fun j => by rw [← hfe']; exact lbs_len _ _
  have L_fd : Hid (∀ j, (fd j).length = 16) := fun j => by rw [← hfd']; exact dgs_len _ _
  have L_fs : Hid (∀ j, (fs j).length = 16) := fun j => by rw [← hfs']; exact dgs_len _ _
  have EL1 : Hid (∀ k, elL f (k + 1) = elL f k ++ [wcells (fe k)]) := fun k => by rw [← hfe']; exact elL_succ f k
  have EL0 : Hid (elL f 0 = []) := rfl
  have fs0 : Hid (fs 0 = zd16) := by unfold Hid; rw [← hfs']; show dgs 16 0 = zd16; decide +kernel
  simp only [hks', hfe', hfs', hfd'] at OJ NJ AJ LK KN
  have KX : Hid (0 < n → ∃ b off, A = some ⟨b, off, none⟩ ∧ b < w.heap.size ∧ ∀ j, j < n → At w b (off + j * 32) (cellsOf (ks j))) := fun h => by
    obtain ⟨b, off, hA, hb, hj⟩ := hK.2.2 h
    exact ⟨b, off, hA, hb, fun j hjn => by rw [← hks']; exact hj j hjn⟩
  clear hks' hks hfe hfe' hfd hfd' hfs hfs' hK
  have L_vi := lbs_len 8 (invF x)
  have L_vx := lbs_len 8 (x)
  have L_vt := lbs_len 8 (sumF f n)
  have L_gi := kL_len (invF x)
  have L_gs := kL_len (sumF f n)
  have L_dm := dgs_len 16 m
  generalize lbs 8 (invF x) = vi at *
  generalize lbs 8 (x) = vx at *
  generalize lbs 8 (sumF f n) = vt at *
  generalize kL (invF x) = gi at *
  generalize kL (sumF f n) = gs at *
  generalize dgs 16 m = dm at *
  generalize elL f = el at *
  have hal3 := num_alloc
  have hzE := infoEl
  have hzE8 : Hid ((Value.agg (wcells zw8).toArray).cells.size = 8) := rfl
  have L_zn : zd16.length = 16 := rfl
  generalize zd16 = zn at *
  have S_zn := ucells_size L_zn
  replace hzE := Lib.hid hzE
  generalize Value.agg (wcells zw8).toArray = ZE at *
  have L_ka := ha
  have S_vi : (wcells vi).toArray.size = 8 := wcells_size L_vi
  have O_vi := wcells_one vi
  have S_vx : (wcells vx).toArray.size = 8 := wcells_size L_vx
  have O_vx := wcells_one vx
  have S_vt : (wcells vt).toArray.size = 8 := wcells_size L_vt
  have O_vt := wcells_one vt
  have S_gi : (cellsOf gi).toArray.size = 32 := by simp [cellsOf_len, L_gi]
  have O_gi := cellsOf_one gi
  have S_gs : (cellsOf gs).toArray.size = 32 := by simp [cellsOf_len, L_gs]
  have O_gs := cellsOf_one gs
  have S_ka : (cellsOf ka).toArray.size = 32 := by simp [cellsOf_len, L_ka]
  have O_ka := cellsOf_one ka
  have S_dm := ucells_size L_dm
  have t1 : decide (30 < (n : Int)) = false := decide_eq_false (by omega)
  have B0 : Hid (∀ s, Ext (w.alloc (Obj.cells (cellsOf ka).toArray 23)) s → Ky s w.heap.size ka ∧ Ext w s) := fun s e => ⟨(Ky.boxed w ha).ext e, ((Ext.refl w).alloc _).trans e⟩
  go_enter Tryd.func4, Tryd.ntmps4
  go_wp2_with fail
  refine (AW.out _ (B0.out _ (Ext.refl _)).2).mono ?_
  rintro e w0 ⟨rfl, e1⟩
  have P0 : Hid (∀ s, Ext w0 s → Ky s w.heap.size ka ∧ Ext w s) := fun s e => B0.out s (e1.trans e)
  clear AW B0 e1
  go_upto_region 6 with fail
  obtain ⟨g7, hg7⟩ : ∃ g, g = w0.heap.size := ⟨_, rfl⟩
  have Q1 : Hid (Ky (w0.alloc (Obj.cells (ucells zn).toArray 32)) w.heap.size ka ∧ Ext w (w0.alloc (Obj.cells (ucells zn).toArray 32)) ∧ Ur (w0.alloc (Obj.cells (ucells zn).toArray 32)) g7 32 zn ∧ g7 + 1 ≤ (w0.alloc (Obj.cells (ucells zn).toArray 32)).heap.size ∧ w.heap.size < g7) := ⟨(P0.out _ ((Ext.refl _).alloc _)).1, (P0.out _ ((Ext.refl _).alloc _)).2, by rw [hg7]; exact heap_alloc_new _ _, by rw [hg7]; simp, by rw [hg7]; exact heap_lt (P0.out _ (Ext.refl _)).1.1⟩
  refine wp_gen (fun W => Ky W w.heap.size ka ∧ Ext w W ∧ Ur W g7 32 zn ∧ g7 + 1 ≤ W.heap.size ∧ w.heap.size < g7) Q1.out ?_
  rw [← hg7]
  clear Q1 P0 hg7
  rintro w1 ⟨k0, x1, u1, z1, z2⟩
  replace k0 := Lib.hid k0
  replace x1 := Lib.hid x1
  replace u1 := Lib.hid u1
  go_wp2_with fail
  go_loopw [6, 8] (fun sv iv wr => ∃ (j : Nat) (A' : Option Addr) (c' : Nat), j ≤ n ∧ sv = .slice A' j c' ∧ iv = .int .i64 (j : Int) ∧ OwnC (g7 + 1) wr 28 8 A' j c' (el j) ∧ Ky wr w.heap.size ka ∧ Ext w wr ∧ Ur wr g7 32 (fs j) ∧ g7 + 1 ≤ wr.heap.size) (fun _ iv _ => ((n : Int) - intOf iv).toNat)
  case atStart => exact ⟨0, none, 0, Nat.zero_le _, rfl, rfl, by rw [EL0.out]; exact OwnC.nil _ _ _ _, k0.out, x1.out, by rw [fs0.out]; exact u1.out, z1⟩
  case round =>
    clear k0 x1 u1 fs0 EL0 z1
    obtain ⟨j, A', c', hj, rfl, rfl, ow, k0, x1, u1, z1⟩ := hrel
    replace k0 := Lib.hid k0
    replace x1 := Lib.hid x1
    replace u1 := Lib.hid u1
    replace ow := Lib.hid ow
    by_cases hlt : j < n
    · have d1 : decide ((j : Int) < (n : Int)) = true := decide_eq_true (by omega)
      have i0 : (0 : Int) ≤ (j : Int) := by omega
      have i1 : (j : Int) < (n : Int) := by omega
      have aw : IntKind.i64.wrap ((j : Int) + 1) = ((j + 1 : Nat) : Int) := IntWalk.i64_in _ (by omega)
      obtain ⟨b, off, rfl, hb, hat⟩ := KX.out (by omega)
      have KAT : Hid (∀ W, Ext w W → At W b (off + j * 32) (cellsOf (ks j))) := fun W e i v hv => (e.cell hb).trans (hat j hlt i v hv)
      have OJj := Lib.hid (fun W e => OJ.out j W hlt e)
      have NJj := Lib.hid (fun W => NJ.out j W hlt)
      have AJj := Lib.hid (fun W => AJ.out j W)
      have L_kj := LK.out j hlt
      have L_ej := L_fe.out j
      have L_dj := L_fd.out j
      have L_sj := L_fs.out j
      have L_sn := L_fs.out (j + 1)
      have ELj := EL1.out j
      obtain ⟨sn, hsn⟩ : ∃ s, s = fs (j + 1) := ⟨_, rfl⟩
      rw [← hsn] at AJj L_sn
      replace hsn := Lib.hid (fun _ : Unit => hsn)
      generalize ks j = kj at *
      generalize fe j = ej at *
      generalize fd j = dj at *
      generalize fs j = sj at *
      replace ELj := Lib.hid (fun _ : Unit => ELj)
      clear KX OJ NJ AJ LK L_fe L_fd L_fs EL1 OFA IX KI RFA RI KS KN SC hat
      have C_kj : (cellsOf kj).length = 32 := by rw [cellsOf_len, L_kj]
      have S_ej := wcells_size L_ej
      have O_ej := wcells_one ej
      have S_dj := ucells_size L_dj
      have S_sj := ucells_size L_sj
      have S_sn := ucells_size L_sn
      have O_sn := ucells_one sn
      go_wp2_with (refine wpList_exec rfl (exec_load_mid (ys := cellsOf kj) rfl rfl (KAT.out _ x1.out) rfl rfl (by rw [C_kj]; rfl)) ?_; simp only [Act.put, List.setIfInBounds_toArray, List.set_cons_zero, List.set_cons_succ])
      refine (OJj.out _ x1.out).mono ?_
      rintro e w2 ⟨rfl, e2⟩
      have r0 := Lib.hid (k0.out.ext e2)
      have r1 := Lib.hid (x1.out.trans e2)
      have r2 := Lib.hid (u1.out.kept e2 u1.out.lt)
      have r3 := Lib.hid (ow.out.ext e2)
      have r4 : g7 + 1 ≤ w2.heap.size := Nat.le_trans z1 e2.size
      clear k0 x1 u1 ow e2 z1
      obtain ⟨ga, hga⟩ : ∃ g, g = w2.heap.size := ⟨_, rfl⟩
      have hga' := Lib.hid hga
      have a0 : Hid (Ky (w2.alloc (Obj.cells (wcells ej).toArray 28)) w.heap.size ka) := r0.out.ext ((Ext.refl _).alloc _)
      have a1 : Hid (Ext w (w2.alloc (Obj.cells (wcells ej).toArray 28))) := r1.out.alloc _
      have a2 : Hid (Ur (w2.alloc (Obj.cells (wcells ej).toArray 28)) g7 32 sj) := r2.out.kept ((Ext.refl _).alloc _) r2.out.lt
      have a3 : Hid (OwnC (g7 + 1) (w2.alloc (Obj.cells (wcells ej).toArray 28)) 28 8 A' j c' (el j)) := r3.out.ext ((Ext.refl _).alloc _)
      have a4 : g7 + 1 ≤ (w2.alloc (Obj.cells (wcells ej).toArray 28)).heap.size := by simp; omega
      have a5 : Hid ((w2.alloc (Obj.cells (wcells ej).toArray 28)).heap[ga]? = some (.cells (wcells ej).toArray 28 (0, 0))) := by unfold Hid; rw [hga]; exact heap_alloc_new _ _
      clear r0 r1 r2 r3 r4
      replace hga := Lib.hid hga
      go_upto_region 10 with (first
        | (refine wpList_slice_c rfl Tryd.underlying40 hzE.out hzE8.out (by omega) (by omega) (cs := wcells ej) (wc8 L_ej) hga'.out.symm rfl rfl ?_; simp only [Act.put, List.setIfInBounds_toArray, List.set_cons_zero, List.set_cons_succ])
        | (refine wpList_append_c rfl Tryd.underlying40 hzE.out hzE8.out (by omega) (by omega) rfl rfl rfl a3.out a5.out (wc8 L_ej) (fun u hu => by have := O_ej; rw [Array.all_eq_true'] at this; exact this u (by simpa using hu)) (by omega) a4 ?_; intro A2 c2 w3 ow3 gr3 be3; simp only [Act.put, List.setIfInBounds_toArray, List.set_cons_zero, List.set_cons_succ]))
      have b0 : Hid (Ky w3 w.heap.size ka) := ⟨(be3.block _ (by omega)).trans a0.out.1, L_ka⟩
      have b1 : Hid (Ext w w3) := Ext.trans' a1.out (be3.mono (by omega))
      have b2 : Hid (Ur w3 g7 32 sj) := a2.out.kept be3 (by omega)
      have b3 : Hid (OwnC (g7 + 1) w3 28 8 A2 (j + 1) c2 (el (j + 1))) := by rw [ELj.out ()]; exact ow3
      have b4 : g7 + 1 ≤ w3.heap.size := Nat.le_trans a4 be3.size
      clear a0 a1 a2 a3 a4 a5 ow3 gr3 be3 hga hga'
      refine wp_region_seqZ (R := Ext) Ext.refl (fun _ _ _ => Ext.trans) 7 [0, 1, 2, 3, 4, 5, 6, 7] [5, 6, 7] [(0, 29, 256), (0, 30, 4), (0, 31, 512), (6, 32, 3221225472), (8, 33, 4294967296), (16, 34, 8589934592), (33, 35, 17716740096), (127, 0, 34359738624)] (by kernel_rfl) (by kernel_rfl) (by kernel_rfl) rfl (by kernel_rfl) (by kernel_rfl) (by kernel_rfl) (fun _ _ d _ _ h => by cases d <;> exact h) ?_
      refine seqZ_read (fun w' => w'.heap[g7]? = some (.cells (ucells sj).toArray 32 (0, 0))) (fun w' e => b2.out.kept ((Ext.refl _).drew.trans e) b2.out.lt) _ (v := .agg (ucells sj).toArray) rfl rfl (by rfl) (fun w' hF => exec_load_row rfl rfl hF rfl rfl (by rw [S_sj]; rfl)) ?_
      simp only [Act.put, List.setIfInBounds_toArray, List.set_cons_zero, List.set_cons_succ]
      iterate 3 (refine seqZ_read (fun _ => True) (fun _ _ => trivial) _ (v := ?_) rfl rfl (by rfl) ?_ ?_; rotate_left; (· intro w' hF; go_simp; (try with_reducible rfl)); simp only [Act.put, List.setIfInBounds_toArray, List.set_cons_zero, List.set_cons_succ])
      refine seqZ_read (fun w' => ∀ q_ v, (cellsOf kj)[q_]? = some v → w'.cell? ⟨b, (off+j*32) + q_, none⟩ = some v) (fun w' e => KAT.out w' (Ext.trans b1.out ((Ext.refl _).drew.trans e))) _ (v := .agg (cellsOf kj).toArray) rfl rfl (by rfl) (fun w' hF => exec_load_mid rfl rfl hF rfl rfl (by rw [C_kj]; rfl)) ?_
      simp only [Act.put, List.setIfInBounds_toArray, List.set_cons_zero, List.set_cons_succ]
      refine seqZ_do _ rfl rfl (by rfl) (fun K1 hK1 => ?_)
      go_simp
      refine (NJj.out _).mono ?_
      rintro e w4 ⟨rfl, e4⟩
      refine hK1.out _ _ (.inr e4) ?_
      clear hK1 K1
      (try simp only [Act.put, List.setIfInBounds_toArray, List.set_cons_zero, List.set_cons_succ])
      have e43 : Hid (Ext w3 w4) := (Ext.refl _).drew.trans e4
      clear e4
      refine seqZ_do _ rfl rfl (by rfl) (fun K1 hK1 => ?_)
      go_simp
      refine (AJj.out _).mono ?_
      rintro e w5 ⟨rfl, e5⟩
      refine hK1.out _ _ (.inr e5) ?_
      clear hK1 K1
      (try simp only [Act.put, List.setIfInBounds_toArray, List.set_cons_zero, List.set_cons_succ])
      have e53 : Hid (Ext w3 w5) := e43.out.trans e5
      clear e43 e5
      refine seqZ_do _ rfl rfl (by rfl) (fun K1 hK1 => ?_)
      refine wp_store_row _ _ _ rfl g7 (ucells sn).toArray rfl rfl 32 (ucells sj).toArray (b2.out.kept e53.out b2.out.lt) (by rw [S_sn]; rfl) (by rw [S_sn, S_sj]) O_sn ?_
      refine hK1.out _ _ (.inl rfl) ?_
      clear hK1 K1
      refine seqZ_done ?_
      have c0 : Hid (Ky (w5.setRow g7 (ucells sn).toArray) w.heap.size ka) := ⟨(setRow_other _ _ _ _ (by omega)).trans (b0.out.ext e53.out).1, L_ka⟩
      have c1 : Hid (Ext w (w5.setRow g7 (ucells sn).toArray)) := below_setRow (b1.out.trans e53.out) (by omega) _
      have c2' : Hid (Ur (w5.setRow g7 (ucells sn).toArray) g7 32 sn) := setRow_heap _ _ _ _ _ _ (b2.out.kept e53.out b2.out.lt)
      have c3 : Hid (OwnC (g7 + 1) (w5.setRow g7 (ucells sn).toArray) 28 8 A2 (j + 1) c2 (el (j + 1))) := by
        refine (b3.out.ext e53.out).kept (row := some g7) ⟨rfl, rfl, rfl, by simp, fun i hi hne => setRow_other _ _ _ _ (fun q => hne (by rw [q]))⟩ (.inr fun q => ?_)
        have := b3.out.ge _ q
        omega
      have c4 : g7 + 1 ≤ (w5.setRow g7 (ucells sn).toArray).heap.size := by
        have := e53.out.size
        simp
        omega
      clear b0 b1 b2 b3 b4 e53
      go_wp2_with fail
      refine ⟨⟨j + 1, A2, c2, by omega, rfl, rfl, c3.out, c0.out, c1.out, by rw [← hsn.out ()]; exact c2'.out, c4⟩, by simp [intOf]; omega⟩
    · obtain rfl : j = n := by omega
      have d1 : decide ((j : Int) < (j : Int)) = false := decide_eq_false (by omega)
      have L_sj := L_fs.out j
      generalize fs j = sj at *
      have S_sj := ucells_size L_sj
      have SCj := Lib.hid (fun W e h => SC.out W (g7 + 1) A' c' e h)
      clear OJ NJ AJ LK L_fe L_fd L_fs EL1 KX SC
      have P1 : Hid (∀ s, Ext wr s → Ky s w.heap.size ka ∧ Ur s g7 32 sj ∧ OwnC (g7 + 1) s 28 8 A' j c' (el j) ∧ Ext w s) := fun s e => ⟨k0.out.ext e, u1.out.kept e u1.out.lt, ow.out.ext e, x1.out.trans e⟩
      clear k0 u1 ow x1 z1
      generalize el j = ej at *
      go_wp2_with fail
      refine wp_region_seq (R := Ext) Ext.refl (fun _ _ _ => Ext.trans) [0, 1, 2, 6, 3, 4, 5, 7, 8, 9, 10, 11, 12, 13, 16, 14, 15, 17, 18, 19, 20] [3, 4, 5, 7, 8, 9, 14, 15, 17] [(0, 36, 64), (1, 37, 68719476736), (2, 38, 137438953480), (6, 39, 412316860416), (10, 40, 687194767360), (18, 41, 1236950581248), (2, 42, 137438953480), (98, 43, 4535485464576), (130, 44, 8933531975680), (258, 45, 17729624997888), (546, 46, 37520834297856), (1026, 47, 70506183131136), (2560, 48, 140737488355328), (4096, 49, 281474976710784), (12288, 50, 844424930131968), (20480, 51, 1407374883553280), (4096, 52, 281474976710912), (102400, 53, 4785074604081152), (167936, 54, 11540474045136896), (266240, 55, 18295873486192640), (1048575, 5, 36028797018963968)] (by kernel_rfl) (by kernel_rfl) (by kernel_rfl) rfl (by kernel_rfl) (by kernel_rfl) (fun _ _ d _ _ h => by cases d <;> exact h) ?_
      iterate 2 (first | (refine seq_read (fun _ => True) (fun _ _ => trivial) _ (v := ?_) rfl rfl (by rfl) ?_ ?_; rotate_left; (· intro w' hF; go_simp; (try with_reducible rfl)); simp only [Act.put, List.setIfInBounds_toArray, List.set_cons_zero, List.set_cons_succ]) | (refine seq_skip _ rfl rfl (by rfl) ?_; simp only [Act.put, List.setIfInBounds_toArray, List.set_cons_zero, List.set_cons_succ]))
      refine seq_read (fun w' => w'.heap[w.heap.size]? = some (.cells (cellsOf ka).toArray 23 (0, 0))) (fun w' e => (P1.out w' ((Ext.refl _).drew.trans e)).1.1) _ (v := .agg (cellsOf ka).toArray) rfl rfl (by rfl) (fun w' hF => exec_load_row rfl rfl hF rfl rfl (by rw [S_ka]; rfl)) ?_
      simp only [Act.put, List.setIfInBounds_toArray, List.set_cons_zero, List.set_cons_succ]
      refine seq_read (fun w' => w'.heap[w.heap.size]? = some (.cells (cellsOf ka).toArray 23 (0, 0))) (fun w' e => (P1.out w' ((Ext.refl _).drew.trans e)).1.1) _ (v := .agg (cellsOf ka).toArray) rfl rfl (by rfl) (fun w' hF => exec_load_row rfl rfl hF rfl rfl (by rw [S_ka]; rfl)) ?_
      simp only [Act.put, List.setIfInBounds_toArray, List.set_cons_zero, List.set_cons_succ]
      refine seq_do _ rfl rfl (by rfl) (fun K1 hK1 => ?_)
      go_simp
      refine (OFA.out _ (P1.out _ (Ext.refl _).drew).2.2.2).mono ?_
      rintro e w2 ⟨rfl, e1⟩
      refine hK1.out _ _ e1 ?_
      clear hK1 K1
      try simp only [Act.put, List.setIfInBounds_toArray, List.set_cons_zero, List.set_cons_succ]
      have P2 : Hid (∀ s, Ext w2 s → Ky s w.heap.size ka ∧ Ur s g7 32 sj ∧ OwnC (g7 + 1) s 28 8 A' j c' ej ∧ Ext w s) := fun s e => P1.out s ((Ext.refl _).drew.trans (e1.trans e))
      clear P1 e1
      refine seq_do _ rfl rfl (by rfl) (fun K1 hK1 => ?_)
      go_simp
      refine (IX.out _ (P2.out _ (Ext.refl _)).2.2.2).mono ?_
      rintro e w3 ⟨rfl, e1⟩
      refine hK1.out _ _ e1 ?_
      clear hK1 K1
      try simp only [Act.put, List.setIfInBounds_toArray, List.set_cons_zero, List.set_cons_succ]
      have P3 : Hid (∀ s, Ext w3 s → Ky s w.heap.size ka ∧ Ur s g7 32 sj ∧ OwnC (g7 + 1) s 28 8 A' j c' ej ∧ Ext w s) := fun s e => P2.out s (e1.trans e)
      clear P2 e1
      refine seq_do _ rfl rfl (by rfl) (fun K1 hK1 => ?_)
      go_simp
      refine (KI.out _ (P3.out _ (Ext.refl _)).2.2.2).mono ?_
      rintro e w4 ⟨rfl, e1⟩
      refine hK1.out _ _ e1 ?_
      clear hK1 K1
      try simp only [Act.put, List.setIfInBounds_toArray, List.set_cons_zero, List.set_cons_succ]
      have P4 : Hid (∀ s, Ext w4 s → Ky s w.heap.size ka ∧ Ur s g7 32 sj ∧ OwnC (g7 + 1) s 28 8 A' j c' ej ∧ Ext w s) := fun s e => P3.out s (e1.trans e)
      clear P3 e1
      refine seq_do _ rfl rfl (by rfl) (fun K1 hK1 => ?_)
      go_simp
      refine (RFA.out _ (P4.out _ (Ext.refl _)).2.2.2).mono ?_
      rintro e w5 ⟨rfl, e1⟩
      refine hK1.out _ _ e1 ?_
      clear hK1 K1
      try simp only [Act.put, List.setIfInBounds_toArray, List.set_cons_zero, List.set_cons_succ]
      have P5 : Hid (∀ s, Ext w5 s → Ky s w.heap.size ka ∧ Ur s g7 32 sj ∧ OwnC (g7 + 1) s 28 8 A' j c' ej ∧ Ext w s) := fun s e => P4.out s (e1.trans e)
      clear P4 e1
      refine seq_do _ rfl rfl (by rfl) (fun K1 hK1 => ?_)
      go_simp
      refine (RI.out _ (P5.out _ (Ext.refl _)).2.2.2).mono ?_
      rintro e w6 ⟨nz, KNZ, rfl, e1⟩
      replace KNZ := Lib.hid KNZ
      refine hK1.out _ _ e1 ?_
      clear hK1 K1
      try simp only [Act.put, List.setIfInBounds_toArray, List.set_cons_zero, List.set_cons_succ]
      have P6 : Hid (∀ s, Ext w6 s → Ky s w.heap.size ka ∧ Ur s g7 32 sj ∧ OwnC (g7 + 1) s 28 8 A' j c' ej ∧ Ext w s) := fun s e => P5.out s (e1.trans e)
      clear P5 e1
      refine seq_do _ rfl rfl (by rfl) (fun K1 hK1 => ?_)
      go_simp
      refine (KNZ.out _ (P6.out _ (Ext.refl _)).2.2.2).mono ?_
      rintro e w7 ⟨rfl, e1⟩
      refine hK1.out _ _ e1 ?_
      clear hK1 K1
      try simp only [Act.put, List.setIfInBounds_toArray, List.set_cons_zero, List.set_cons_succ]
      have P7 : Hid (∀ s, Ext w7 s → Ky s w.heap.size ka ∧ Ur s g7 32 sj ∧ OwnC (g7 + 1) s 28 8 A' j c' ej ∧ Ext w s) := fun s e => P6.out s (e1.trans e)
      clear P6 e1
      refine seq_read (fun _ => True) (fun _ _ => trivial) _ (v := .bool true) rfl rfl (by rfl) (fun w' _ => exec_eql_keyB (xs := gi) (ys := gi) (decide_eq_true rfl) L_gi L_gi rfl rfl rfl) ?_
      simp only [Act.put, List.setIfInBounds_toArray, List.set_cons_zero, List.set_cons_succ]
      iterate 3 (first | (refine seq_read (fun _ => True) (fun _ _ => trivial) _ (v := ?_) rfl rfl (by rfl) ?_ ?_; rotate_left; (· intro w' hF; go_simp; (try with_reducible rfl)); simp only [Act.put, List.setIfInBounds_toArray, List.set_cons_zero, List.set_cons_succ]) | (refine seq_skip _ rfl rfl (by rfl) ?_; simp only [Act.put, List.setIfInBounds_toArray, List.set_cons_zero, List.set_cons_succ]))
      refine seq_read (fun w' => w'.heap[g7]? = some (.cells (ucells sj).toArray 32 (0, 0))) (fun w' e => (P7.out w' e).2.1) _ (v := .agg (ucells sj).toArray) rfl rfl (by rfl) (fun w' hF => exec_load_row rfl rfl hF rfl rfl (by rw [S_sj]; rfl)) ?_
      simp only [Act.put, List.setIfInBounds_toArray, List.set_cons_zero, List.set_cons_succ]
      refine seq_do _ rfl rfl (by rfl) (fun K1 hK1 => ?_)
      go_simp
      refine (SCj.out _ (P7.out _ (Ext.refl _)).2.2.2 (P7.out _ (Ext.refl _)).2.2.1).mono ?_
      rintro e w8 ⟨rfl, e1⟩
      refine hK1.out _ _ e1 ?_
      clear hK1 K1
      try simp only [Act.put, List.setIfInBounds_toArray, List.set_cons_zero, List.set_cons_succ]
      have P8 : Hid (∀ s, Ext w8 s → Ky s w.heap.size ka ∧ Ur s g7 32 sj ∧ OwnC (g7 + 1) s 28 8 A' j c' ej ∧ Ext w s) := fun s e => P7.out s (e1.trans e)
      clear P7 e1
      refine seq_do _ rfl rfl (by rfl) (fun K1 hK1 => ?_)
      go_simp
      refine (KS.out _ (P8.out _ (Ext.refl _)).2.2.2).mono ?_
      rintro e w9 ⟨rfl, e1⟩
      refine hK1.out _ _ e1 ?_
      clear hK1 K1
      try simp only [Act.put, List.setIfInBounds_toArray, List.set_cons_zero, List.set_cons_succ]
      have P9 : Hid (∀ s, Ext w9 s → Ky s w.heap.size ka ∧ Ur s g7 32 sj ∧ OwnC (g7 + 1) s 28 8 A' j c' ej ∧ Ext w s) := fun s e => P8.out s (e1.trans e)
      clear P8 e1
      refine seq_do _ rfl rfl (by rfl) (fun K1 hK1 => ?_)
      go_simp
      refine (KN.out _ (P9.out _ (Ext.refl _)).2.2.2).mono ?_
      rintro e w10 ⟨rfl, e1⟩
      refine hK1.out _ _ e1 ?_
      clear hK1 K1
      try simp only [Act.put, List.setIfInBounds_toArray, List.set_cons_zero, List.set_cons_succ]
      have P10 : Hid (∀ s, Ext w10 s → Ky s w.heap.size ka ∧ Ur s g7 32 sj ∧ OwnC (g7 + 1) s 28 8 A' j c' ej ∧ Ext w s) := fun s e => P9.out s (e1.trans e)
      clear P9 e1
      refine seq_read (fun _ => True) (fun _ _ => trivial) _ (v := .bool true) rfl rfl (by rfl) (fun w' _ => exec_eql_keyB (xs := gs) (ys := gs) (decide_eq_true rfl) L_gs L_gs rfl rfl rfl) ?_
      simp only [Act.put, List.setIfInBounds_toArray, List.set_cons_zero, List.set_cons_succ]
      repeat (first | (refine seq_read (fun _ => True) (fun _ _ => trivial) _ (v := ?_) rfl rfl (by rfl) ?_ ?_; rotate_left; (· intro w' hF; go_simp; (try with_reducible rfl)); simp only [Act.put, List.setIfInBounds_toArray, List.set_cons_zero, List.set_cons_succ]) | (refine seq_skip _ rfl rfl (by rfl) ?_; simp only [Act.put, List.setIfInBounds_toArray, List.set_cons_zero, List.set_cons_succ]))
      refine seq_done ?_
      have EE := Lib.hid (P10.out _ (Ext.refl _)).2.2.2
      clear P10
      go_wp2_with fail
      go_ret
      exact ⟨rfl, EE.out⟩

theorem fieldInverts_calls {ka : List UInt8} {A : Option Addr} {n c : Nat} {l : List (List UInt8)} {w : World} (ha : ka.length = 32) (hK : Kx w A n l) (hnc : n ≤ c) (hc : c ≤ maxLen) {tg : TypeId × Nat × Nat} (hG : Gp w tg) :
    Calls Tryd.prog 4 #[.agg (cellsOf ka).toArray, .slice A n c] w fun e w' => e = .returned (.bool true) ∧ Ext w w' := by
  by_cases h : n ≤ 30
  · exact fieldInverts_in ha hK h hnc hc hG
  · exact fieldInverts_out (by omega) hnc hc hG
end Go.Proofs.YteognebhlehjlaaDoor
