import Derived.Test.YtfhafednnnfmbaaDoorRmult
import Derived.Test.YtfhafednnnfmbaaDoorPkN
import Derived.Test.YtfhafednnnfmbaaDoorPkF
import Derived.Test.YtfhafednnnfmbaaDoorPkS
import Derived.Test.YtfhafednnnfmbaaDoorPkP
import Derived.Test.YtfhafednnnfmbaaDoorBegin
import Derived.Test.YtfhafednnnfmbaaDoorAnswer
import Derived.Test.YtfhafednnnfmbaaDoorPkI
section
/-
  palfreyref07.Base.
-/
namespace Go.Proofs.YtfhafednnnfmbaaDoor
open Go.ChangeShapes Go.WideShapes Go.ChangeAt Go.RowKit Go.Deep
set_option maxRecDepth 100000

set_option maxHeartbeats 2000000 in
theorem rbase_calls {ks : List UInt8} {w : World} (hk : ks.length = 32) :
    Calls Tryd.prog 20 #[.agg (cellsOf ks).toArray] w fun e w' => e = .returned (.agg (cellsOf (kL (multN ks 9))).toArray) ∧ Ext w w' := by
  have MU : Hid (∀ W, Calls Tryd.prog 25 #[.agg (cellsOf ks).toArray, .agg (cellsOf key9).toArray] W fun e w' => e = .returned (.agg (cellsOf (kL (multN ks 9))).toArray) ∧ Ext W w') := fun W => by
    have := rmult_calls (w := W) hk (show key9.length = 32 from rfl)
    rwa [ofV9] at this
  have L_rk := kL_len (multN ks 9)
  generalize kL (multN ks 9) = rk at *
  have S_rk : (cellsOf rk).toArray.size = 32 := by simp [cellsOf_len, L_rk]
  have O_rk := cellsOf_one rk
  have S_ks : (cellsOf ks).toArray.size = 32 := by simp [cellsOf_len, hk]
  have hb := Lib.hid built9
  generalize key9 = k9 at *
  have hal : ∀ w, (zeroValue 23).run Tryd.prog w = .ok (.agg (cellsOf (List.replicate 32 0)).toArray) w := fun w => by rw [zeros32_cells]; exact key_alloc w
  have L_zk : (List.replicate 32 (0 : UInt8)).length = 32 := rfl
  generalize List.replicate 32 (0 : UInt8) = zk at *
  have S_zk : (cellsOf zk).toArray.size = 32 := by simp [cellsOf_len, L_zk]
  have B0 : Hid (Ky ((w.alloc (Obj.cells (cellsOf ks).toArray 23)).alloc (Obj.cells (cellsOf zk).toArray 23)) w.heap.size ks ∧ Ky ((w.alloc (Obj.cells (cellsOf ks).toArray 23)).alloc (Obj.cells (cellsOf zk).toArray 23)) (w.heap.size + 1) zk ∧ Ext w ((w.alloc (Obj.cells (cellsOf ks).toArray 23)).alloc (Obj.cells (cellsOf zk).toArray 23))) := ⟨⟨heap_alloc1 _ _ _, hk⟩, ⟨heap_alloc2 _ _ _, L_zk⟩, ((Ext.refl w).alloc _).alloc _⟩
  go_enter Tryd.func20, Tryd.ntmps20
  go_wp2_with (first
    | (refine wpList_load_row rfl 23 _ rfl w.heap.size rfl 23 (cellsOf ks).toArray (0, 0) _ B0.out.1.1 rfl rfl (by rw [S_ks]; rfl) ?_; simp only [Act.put, List.setIfInBounds_toArray, List.set_cons_zero, List.set_cons_succ])
    | (refine wpList_build_as rfl _ _ rfl (cellsOf k9).toArray (by simp only [List.map_toArray, List.map_cons, List.map_nil]; exact hb.out) ?_; simp only [Act.put, List.setIfInBounds_toArray, List.set_cons_zero, List.set_cons_succ]))
  refine (MU.out _).mono ?_
  rintro e w1 ⟨rfl, e1⟩
  have kr := Lib.hid (B0.out.2.1.ext e1)
  have kx : Hid (Ext w w1) := B0.out.2.2.trans e1
  clear B0 MU e1
  go_wp2_with (refine wpList_store_row rfl 23 _ _ rfl (w.heap.size + 1) (cellsOf rk).toArray rfl rfl 23 _ kr.out.1 (by rw [S_rk]; rfl) (by rw [S_rk, S_zk]) O_rk ?_; simp only [Act.put, List.setIfInBounds_toArray, List.set_cons_zero, List.set_cons_succ])
  (try simp only [Exit.inBlock, Exit.then])
  refine bodyPost_ret (results_cell_row rfl _ _ (w.heap.size + 1) 23 (cellsOf rk).toArray (0, 0) _ rfl (setRow_heap _ _ _ _ _ _ kr.out.1) rfl rfl (by rw [S_rk]; rfl)) rfl ?_
  exact ⟨rfl, below_setRow kx.out (by omega) _⟩
end Go.Proofs.YtfhafednnnfmbaaDoor
end

section
/-
  palfreyref08.Pair.
-/
namespace Go.Proofs.YtfhafednnnfmbaaDoor
open Go.ChangeShapes Go.WideShapes Go.ChangeAt Go.RowKit Go.Deep
set_option maxRecDepth 100000

set_option maxHeartbeats 4000000 in
theorem rpair_calls {w : World} {A : Option Addr} {n c : Nat} {xs : List UInt8} (h : Bs w A n c xs) (hn : n ≤ 1000000) :
    Calls Tryd.prog 14 #[.slice A n c] w fun e w' => e = .returned (.agg (cellsOf (pairL xs)).toArray) ∧ Ext w w' := by
  have SUM : Hid (∀ W, Ext w W → Calls Tryd.prog 19 #[.slice A n c] W fun e w' => e = .returned (.agg (cellsOf (macL [] xs)).toArray) ∧ Ext W w') := fun W e => refSum_calls (h.ext e) hn
  have BAS : Hid (∀ W, Ext w W → Calls Tryd.prog 20 #[.agg (cellsOf (macL [] xs)).toArray] W fun e w' => e = .returned (.agg (cellsOf (kL (multN (macL [] xs) 9))).toArray) ∧ Ext W w') := fun W e => rbase_calls (macL_len _ _)
  have BLT := Lib.hid (apair_built (macL_len [] xs) (kL_len (multN (macL [] xs) 9)))
  have RLe := pairL_len xs
  have hR_ : Hid (macL [] xs ++ kL (multN (macL [] xs) 9) = pairL xs) := rfl
  rw [hR_.out] at BLT
  clear hn
  have L_sk := macL_len [] xs
  have L_pk := kL_len (multN (macL [] xs) 9)
  clear hR_
  generalize kL (multN (macL [] xs) 9) = pk at *
  generalize macL [] xs = sk at *
  generalize pairL xs = rr at *
  have S_sk : (cellsOf sk).toArray.size = 32 := by simp [cellsOf_len, L_sk]
  have O_sk := cellsOf_one sk
  have S_rr : (cellsOf rr).toArray.size = 64 := by simp [cellsOf_len, RLe]
  have O_rr := cellsOf_one rr
  have hal : ∀ w, (zeroValue 23).run Tryd.prog w = .ok (.agg (cellsOf (List.replicate 32 0)).toArray) w := fun w => by rw [zeros32_cells]; exact key_alloc w
  have hal2 := apair_alloc
  have L_zk : (List.replicate 32 (0 : UInt8)).length = 32 := rfl
  have L_zp : (List.replicate 64 (0 : UInt8)).length = 64 := by simp
  generalize List.replicate 32 (0 : UInt8) = zk at *
  generalize List.replicate 64 (0 : UInt8) = zp at *
  have S_zk : (cellsOf zk).toArray.size = 32 := by simp [cellsOf_len, L_zk]
  have S_zp : (cellsOf zp).toArray.size = 64 := by simp [cellsOf_len, L_zp]
  have B0 : Hid (Kp (w.alloc (Obj.cells (cellsOf zp).toArray 25)) w.heap.size zp ∧ Ext w (w.alloc (Obj.cells (cellsOf zp).toArray 25))) := ⟨⟨heap_alloc_new _ _, L_zp⟩, (Ext.refl w).alloc _⟩
  go_enter Tryd.func14, Tryd.ntmps14
  go_wp2_with fail
  refine (SUM.out _ B0.out.2).mono ?_
  rintro e u_ ⟨rfl, e1⟩
  have a1 : Hid ((u_.alloc (Obj.cells (cellsOf zk).toArray 23)).heap[u_.heap.size]? = some (.cells (cellsOf zk).toArray 23 (0, 0))) := heap_alloc_new _ _
  have E_ : Ext (w.alloc (Obj.cells (cellsOf zp).toArray 25)) ((u_.alloc (Obj.cells (cellsOf zk).toArray 23)).setRow u_.heap.size (cellsOf sk).toArray) := e1.trans (below_setRow ((Ext.refl u_).alloc _) (Nat.le_refl _) _)
  go_upto_region 2 with (refine wpList_store_row rfl 23 _ _ rfl u_.heap.size (cellsOf sk).toArray rfl rfl 23 _ a1.out (by rw [S_sk]; rfl) (by rw [S_sk, S_zk]) O_sk ?_; simp only [Act.put])
  obtain ⟨g3, hg_⟩ : ∃ g, g = u_.heap.size := ⟨_, rfl⟩
  obtain ⟨r, hr_⟩ : ∃ r, r = w.heap.size := ⟨_, rfl⟩
  refine wp_gen (fun W => Ky W g3 sk ∧ Kp W r zp ∧ Ext w W) ⟨⟨by rw [hg_]; exact setRow_heap _ _ _ _ _ _ a1.out, L_sk⟩, by rw [hr_]; exact B0.out.1.ext E_, B0.out.2.trans E_⟩ ?_
  rw [← hg_, ← hr_]
  replace hr_ := Lib.hid hr_
  clear hg_ a1 E_ e1 B0 SUM
  rintro w1 ⟨k1, p1, x1⟩
  have Q1 : Hid (∀ s, Ext w1 s → Ky s g3 sk ∧ Kp s r zp ∧ Ext w s) := fun s e => ⟨k1.ext e, p1.ext e, x1.trans e⟩
  clear k1 p1 x1
  refine wp_region_free (R := Ext) Ext.refl (fun _ _ _ => Ext.trans) [0, 1, 2, 3] [4] [0, 0, 2, 7, 15] [true, true, true, true, false] [(0, 7, 16), (0, 8, 16), (2, 9, 256), (5, 10, 640), (15, 0, 1032)] (by kernel_rfl) (by kernel_rfl) (by kernel_rfl) (by kernel_rfl) ?_
  refine free_det (fun _ => Ext.refl _) _ rfl (v := .agg (cellsOf sk).toArray) (d := 7) rfl rfl ?_ ?_
  · intro a_ w_ hev hR hk
    have e3 : a_.eval (.tmp 3) = _ := hk 3 rfl
    exact (exec_load_row rfl e3 (Q1.out w_ (Ext.trans (Ext.refl _).drew hR)).1.1 rfl rfl (by rw [S_sk]; rfl))
  refine free_det (fun _ => Ext.refl _) _ rfl (v := .agg (cellsOf sk).toArray) (d := 8) rfl rfl ?_ ?_
  · intro a_ w_ hev hR hk
    have e3 : a_.eval (.tmp 3) = _ := hk 3 rfl
    exact (exec_load_row rfl e3 (Q1.out w_ (Ext.trans (Ext.refl _).drew hR)).1.1 rfl rfl (by rw [S_sk]; rfl))
  refine free_step _ rfl (fun u _ => u = .agg (cellsOf pk).toArray) (d := 9) rfl (fun _ _ _ h _ => h) rfl ?_ ?_
  · intro a_ w_ hev hR hk K1 hK1
    have e7 : a_.eval (.tmp 7) = _ := hk 7 rfl
    clear hk
    have f7 := ev_get.trans e7
    go_simp
    refine (BAS.out _ (Q1.out w_ (Ext.trans (Ext.refl _).drew hR)).2.2).mono ?_
    rintro e_ w2_ ⟨rfl, x_⟩
    exact hK1.out _ _ x_ rfl
  refine free_det (fun _ => Ext.refl _) _ rfl (v := .agg (cellsOf rr).toArray) (d := 10) rfl rfl ?_ ?_
  · intro a_ w_ hev hR hk
    have e6 : a_.eval (.tmp 6) = _ := hk 6 rfl
    have e8 : a_.eval (.tmp 8) = _ := hk 8 rfl
    exact (exec_build_as rfl (by simp only [List.map_toArray, List.map_cons, List.map_nil, e6, e8]; exact BLT.out))
  intro v_ w2 hR hV_ hN_
  obtain ⟨hv3, hv2, hv1, hv0, _⟩ := hV_
  replace hv0 : v_ 0 = _ := hv0
  replace hv1 : v_ 1 = _ := hv1
  replace hv2 : v_ 2 = _ := hv2
  replace hv3 : v_ 3 = _ := hv3
  dsimp only [putE, dOpt]
  clear hN_
  rw [hv0, hv1, hv2, hv3]
  simp only [Act.put, List.setIfInBounds_toArray, List.set_cons_zero, List.set_cons_succ]
  clear hv0 hv1 hv2 hv3
  have kz := Lib.hid (Q1.out w2 ((Ext.refl _).drew.trans hR)).2
  refine any_more (z := 4) _ rfl rfl (by kernel_rfl) ?_
  intro K1 hK1
  refine wp_store_row _ _ _ rfl r (cellsOf rr).toArray rfl rfl 25 (cellsOf zp).toArray kz.out.1.1 (by rw [S_rr]; rfl) (by rw [S_rr, S_zp]) O_rr ?_
  refine hK1.out _ _ ?_
  clear hK1 K1
  refine any_nil (by kernel_rfl) ?_
  clear hR Q1
  go_wp2_with fail
  (try simp only [Exit.inBlock, Exit.then])
  refine bodyPost_ret (results_cell_row rfl _ _ r 25 (cellsOf rr).toArray (0, 0) _ rfl (setRow_heap _ _ _ _ _ _ kz.out.1.1) rfl rfl (by rw [S_rr]; rfl)) rfl ?_
  exact ⟨rfl, below_setRow kz.out.2 (by rw [hr_.out]; exact Nat.le_refl _) _⟩
end Go.Proofs.YtfhafednnnfmbaaDoor
end

section
/-
  palfreylaw09.own: keys of a seed.
-/
namespace Go.Proofs.YtfhafednnnfmbaaDoor
open Go.ChangeShapes Go.WideShapes Go.ChangeAt Go.RowKit Go.Deep
set_option maxRecDepth 100000

def ownL (s : UInt8) : List UInt8 := pairL [s, 1] ++ (pairL [s, 2] ++ pairL [s, 3])
theorem ownL_len (s : UInt8) : (ownL s).length = 192 := by simp [ownL, pairL_len]
theorem own_alloc (w : World) : (zeroValue 34).run Tryd.prog w = .ok (.agg (bbC (List.replicate 192 0) false).toArray) w := by kernel_rfl
set_option maxHeartbeats 4000000 in
theorem own_calls {w : World} {s : UInt8} {o : Bool} :
    Calls Tryd.prog 13 #[.int .u8 (s.toNat : Int), .bool o] w fun e w' => e = .returned (.agg (bbC (ownL s) o).toArray) ∧ Ext w w' := by
  have PA : Hid (∀ (W : World) (i : UInt8) v, Ext w W → v = .int .u8 (i.toNat : Int) → Calls Tryd.prog 14 #[.slice (some ⟨W.heap.size, 0, none⟩) 2 2] (W.alloc (.cells #[.int .u8 (s.toNat : Int), v] 5)) fun e w' => e = .returned (.agg (cellsOf (pairL [s, i])).toArray) ∧ Ext W w') := fun W i v e hv => by
    subst hv
    exact Calls.mono (rpair_calls (Bs.of_list rfl (heap_alloc_new _ _) ⟨rfl, by omega⟩) (by omega)) (fun e2 w2 q => ⟨q.1, ((Ext.refl W).alloc _).trans q.2⟩)
  have hal := own_alloc
  have LZ : (bbC (List.replicate 192 0) false).length = 193 := by rw [bbC_len]; simp
  have BL := Lib.hid (own_built (h := o) (pairL_len [s, 1]) (pairL_len [s, 2]) (pairL_len [s, 3]))
  have LO : (bbC (ownL s) o).length = 193 := by rw [bbC_len, ownL_len]
  have OB := Lib.hid (bbC_one (ownL s) o)
  rw [show pairL [s, 1] ++ (pairL [s, 2] ++ pairL [s, 3]) = ownL s from rfl] at BL
  have L_1 := pairL_len [s, 1]
  have L_2 := pairL_len [s, 2]
  have L_3 := pairL_len [s, 3]
  have P1 := Lib.hid (fun W e => PA.out W 1 (.int .u8 1) e rfl)
  have P2 := Lib.hid (fun W e => PA.out W 2 (.int .u8 2) e rfl)
  have P3 := Lib.hid (fun W e => PA.out W 3 (.int .u8 3) e rfl)
  clear PA
  generalize pairL [s, 1] = p1 at *
  generalize pairL [s, 2] = p2 at *
  generalize pairL [s, 3] = p3 at *
  generalize bbC (List.replicate 192 0) false = zz at *
  generalize hoo : bbC (ownL s) o = oo at *
  replace hoo := Lib.hid (fun _ : Unit => hoo)
  have SZ : zz.toArray.size = 193 := by rw [List.size_toArray, LZ]
  have SO : oo.toArray.size = 193 := by rw [List.size_toArray, LO]
  have B0 : Hid (Cb (w.alloc (Obj.cells zz.toArray 34)) w.heap.size 34 zz ∧ Ext w (w.alloc (Obj.cells zz.toArray 34))) := ⟨Cb.new _ _ _, (Ext.refl w).alloc _⟩
  go_enter Tryd.func13, Tryd.ntmps13
  go_upto_region 1 with fail
  refine wp_gen (fun W => Cb W w.heap.size 34 zz ∧ Ext w W) B0.out ?_
  clear B0
  rintro w0 ⟨k0, x0⟩
  replace x0 := Lib.hid x0
  replace k0 := Lib.hid k0
  go_wp2_with fail
  refine (P1.out _ x0.out).mono ?_
  rintro e w1 ⟨rfl, e1⟩
  have k1 := Lib.hid (k0.out.ext e1)
  have x1 := Lib.hid (x0.out.trans e1)
  clear k0 x0 e1 P1
  go_wp2_with fail
  refine (P2.out _ x1.out).mono ?_
  rintro e w2 ⟨rfl, e2⟩
  have k2 := Lib.hid (k1.out.ext e2)
  have x2 := Lib.hid (x1.out.trans e2)
  clear k1 x1 e2 P2
  go_wp2_with fail
  refine (P3.out _ x2.out).mono ?_
  rintro e w3 ⟨rfl, e3⟩
  have k3 := Lib.hid (k2.out.ext e3)
  have x3 := Lib.hid (x2.out.trans e3)
  clear k2 x2 e3 P3
  go_wp2_with (first
    | (refine wpList_build_as rfl _ _ rfl oo.toArray (by simp only [List.map_toArray, List.map_cons, List.map_nil]; exact BL.out) ?_; simp only [Act.put, List.setIfInBounds_toArray, List.set_cons_zero, List.set_cons_succ])
    | (refine wpList_store_row rfl 34 _ _ rfl w.heap.size oo.toArray rfl rfl 34 zz.toArray k3.out (by rw [SO]; rfl) (by rw [SO, SZ]) OB.out ?_; simp only [Act.put]))
  (try simp only [Exit.inBlock, Exit.then])
  refine bodyPost_ret (results_cell_row rfl _ _ w.heap.size 34 oo.toArray (0, 0) _ rfl (setRow_heap _ _ _ _ _ _ k3.out) rfl rfl (by rw [SO]; rfl)) rfl ?_
  exact ⟨rfl, below_setRow x3.out (Nat.le_refl _) _⟩
end Go.Proofs.YtfhafednnnfmbaaDoor
end

section
/-
  Bits of a secret, and the highest of a public key, that do not count. Plain mathematics; no conditions.
-/
namespace Go.Proofs.YtfhafednnnfmbaaDoor
open Go.ChangeShapes Go.WideShapes Go.ChangeAt Go.RowKit Go.Deep
set_option maxRecDepth 100000

theorem nat_u8 {a : Int} (h : (Lit.int .u8 a).wf = true) : ∃ z : Nat, a = (z : Int) ∧ z < 256 := by
  have hb : 0 ≤ a ∧ a ≤ 255 := by simpa [Lit.wf, IntKind.min, IntKind.max, IntKind.signed, IntKind.bits] using h
  exact ⟨a.toNat, by omega, by omega⟩
theorem ladN_congr {x : Nat} {f g : Nat → Bool} : ∀ m, (∀ j, j < m → f j = g j) → ladN x f m = ladN x g m
  | 0, _ => rfl
  | m + 1, h => by
    show swapN (f m) (stepN x (swapN (f m) (ladN x f m))) = swapN (g m) (stepN x (swapN (g m) (ladN x g m)))
    rw [h m (Nat.lt_succ_self m), ladN_congr m fun j hj => h j (by omega)]
theorem multN_congr {ks ls : List UInt8} (x : Nat) (h : ∀ i, i ≤ 254 → bitB ks i = bitB ls i) : multN ks x = multN ls x := by
  unfold multN
  rw [ladN_congr 255 fun j hj => h (254 - j) (by omega)]
theorem btS {xs : List UInt8} {i j x : Nat} (hi : i < xs.length) (hx : x < 256) : bt (xs.set i (UInt8.ofNat x)) j = if j = i then x else bt xs j := by
  unfold bt
  by_cases e : j = i
  · subst e; simp [List.getD, hi]; omega
  · rw [if_neg e]; simp [List.getD, List.getElem?_set, show ¬ i = j from fun q => e q.symm]
theorem mixLow (x n : Nat) {i : Nat} (h3 : 3 ≤ i) (h8 : i < 8) : ((x &&& 248) ||| (n &&& 7)) / 2 ^ i % 2 = x / 2 ^ i % 2 := by
  have e : ∀ y, y / 2 ^ i % 2 = (y.testBit i).toNat := fun y => by rw [Nat.testBit_eq_decide_div_mod_eq]; rcases Nat.mod_two_eq_zero_or_one (y / 2 ^ i) with q | q <;> simp [q]
  rw [e, e, Nat.testBit_or, Nat.testBit_and, Nat.testBit_and]
  have : i = 3 ∨ i = 4 ∨ i = 5 ∨ i = 6 ∨ i = 7 := by omega
  rcases this with rfl | rfl | rfl | rfl | rfl <;> simp [show Nat.testBit 248 3 = true from rfl, show Nat.testBit 248 4 = true from rfl, show Nat.testBit 248 5 = true from rfl, show Nat.testBit 248 6 = true from rfl, show Nat.testBit 248 7 = true from rfl, show Nat.testBit 7 3 = false from rfl, show Nat.testBit 7 4 = false from rfl, show Nat.testBit 7 5 = false from rfl, show Nat.testBit 7 6 = false from rfl, show Nat.testBit 7 7 = false from rfl]
theorem mixHigh (x n : Nat) {i : Nat} (h6 : i < 6) : ((x &&& 63) ||| (n &&& 192)) / 2 ^ i % 2 = x / 2 ^ i % 2 := by
  have e : ∀ y, y / 2 ^ i % 2 = (y.testBit i).toNat := fun y => by rw [Nat.testBit_eq_decide_div_mod_eq]; rcases Nat.mod_two_eq_zero_or_one (y / 2 ^ i) with q | q <;> simp [q]
  rw [e, e, Nat.testBit_or, Nat.testBit_and, Nat.testBit_and]
  have : i = 0 ∨ i = 1 ∨ i = 2 ∨ i = 3 ∨ i = 4 ∨ i = 5 := by omega
  rcases this with rfl | rfl | rfl | rfl | rfl | rfl <;> simp [show Nat.testBit 63 0 = true from rfl, show Nat.testBit 63 1 = true from rfl, show Nat.testBit 63 2 = true from rfl, show Nat.testBit 63 3 = true from rfl, show Nat.testBit 63 4 = true from rfl, show Nat.testBit 63 5 = true from rfl, show Nat.testBit 192 0 = false from rfl, show Nat.testBit 192 1 = false from rfl, show Nat.testBit 192 2 = false from rfl, show Nat.testBit 192 3 = false from rfl, show Nat.testBit 192 4 = false from rfl, show Nat.testBit 192 5 = false from rfl]
def lowB (x n : Nat) : Nat := (x &&& 248) ||| (n &&& 7)
def highB (x n : Nat) : Nat := (x &&& 63) ||| (n &&& 192)
theorem lowB_lt {x n : Nat} (hx : x < 256) (hn : n < 256) : lowB x n < 256 := Nat.or_lt_two_pow (n := 8) (Nat.lt_of_le_of_lt Nat.and_le_left hx) (Nat.lt_of_le_of_lt Nat.and_le_left hn)
theorem highB_lt {x n : Nat} (hx : x < 256) (hn : n < 256) : highB x n < 256 := Nat.or_lt_two_pow (n := 8) (Nat.lt_of_le_of_lt Nat.and_le_left hx) (Nat.lt_of_le_of_lt Nat.and_le_left hn)
def mixS (ks : List UInt8) (n : Nat) : List UInt8 := (ks.set 0 (UInt8.ofNat (lowB (bt ks 0) n))).set 31 (UInt8.ofNat (highB (bt ks 31) n))
theorem mixS_len {ks : List UInt8} (h : ks.length = 32) (n : Nat) : (mixS ks n).length = 32 := by simp [mixS, h]
theorem mult_mixS {ks : List UInt8} (h : ks.length = 32) {n : Nat} (hn : n < 256) (x : Nat) : multN (mixS ks n) x = multN ks x := by
  refine multN_congr x fun i hi => ?_
  unfold bitB
  by_cases a : i < 3 ∨ i = 255
  · rw [if_pos a, if_pos a]
  · rw [if_neg a, if_neg a]
    by_cases b : i = 254
    · rw [if_pos b, if_pos b]
    · rw [if_neg b, if_neg b]
      congr 2
      have hm := Nat.mod_lt i (show 0 < 8 by decide)
      have hd := Nat.div_add_mod i 8
      unfold mixS
      rw [btS (by simp [h]) (highB_lt (bt_lt ks 31) hn), btS (by simp [h]) (lowB_lt (bt_lt ks 0) hn)]
      by_cases c : i / 8 = 31
      · rw [if_pos c, c, highB, mixHigh _ _ (by omega)]
      · rw [if_neg c]
        by_cases d : i / 8 = 0
        · rw [if_pos d, d, lowB, mixLow _ _ (by omega) hm]
        · rw [if_neg d]
theorem ofV_top {ks ls : List UInt8} (h : ∀ j, j < 31 → bt ks j = bt ls j) (h31 : bt ks 31 % 128 = bt ls 31 % 128) : ofV ks = ofV ls := by
  have e : ∀ i, i ≤ 31 → ofN ks i = ofN ls i := by
    intro i
    induction i with
    | zero => intro _; rfl
    | succ i ih => intro hi; rw [ofN, ofN, ih (by omega), h i (by omega)]
  have key : ∀ xs : List UInt8, ofN xs 32 % H8 = (ofN xs 31 + bt xs 31 % 128 * 256 ^ 31) % H8 := fun xs => by
    have h8 : H8 = 128 * 256 ^ 31 := by decide +kernel
    rw [show ofN xs 32 = ofN xs 31 + bt xs 31 * 256 ^ 31 from rfl, h8]
    have hd := Nat.div_add_mod (bt xs 31) 128
    generalize bt xs 31 % 128 = r at *
    generalize bt xs 31 / 128 = q at *
    rw [← hd]
    generalize (256 : Nat) ^ 31 = M
    rw [Nat.add_mul, show 128 * q * M = 128 * M * q by rw [Nat.mul_assoc, Nat.mul_comm q, Nat.mul_assoc], show ofN xs 31 + (128 * M * q + r * M) = (ofN xs 31 + r * M) + 128 * M * q by omega, Nat.add_mul_mod_self_left]
  show ofN ks 32 % H8 % P25 = ofN ls 32 % H8 % P25
  rw [key, key, e 31 (Nat.le_refl _), h31]
def flipT (ks : List UInt8) : List UInt8 := ks.set 31 (UInt8.ofNat (bt ks 31 ^^^ 128))
theorem xor128 : ∀ x, x < 256 → x ^^^ 128 < 256 ∧ (x ^^^ 128) % 128 = x % 128 := by decide +kernel
theorem flipT_len {ks : List UInt8} (h : ks.length = 32) : (flipT ks).length = 32 := by simp [flipT, h]
theorem ofV_flipT {ks : List UInt8} (h : ks.length = 32) : ofV (flipT ks) = ofV ks := by
  obtain ⟨x1, x2⟩ := xor128 _ (bt_lt ks 31)
  refine ofV_top (fun j hj => ?_) ?_
  · unfold flipT; rw [btS (by omega) x1, if_neg (by omega)]
  · unfold flipT; rw [btS (by omega) x1, if_pos rfl]; exact x2
theorem kL_top {x : Nat} (h : x < P25) : bt (kL x) 31 < 128 := by
  rw [bt_kL_div (by decide)]
  have h2 : x < 128 * 256 ^ 31 := Nat.lt_of_lt_of_le h (by decide +kernel)
  have : x / 256 ^ 31 < 128 := (Nat.div_lt_iff_lt_mul (Nat.pow_pos (by decide))).mpr h2
  omega
theorem kL_nil : kL 0 = List.replicate 32 0 := by decide +kernel
theorem ofV_nil : ofV (List.replicate 32 0) = 0 := by decide +kernel
end Go.Proofs.YtfhafednnnfmbaaDoor
end

section
/-
  Layer 9's keys of pairs: pure.
-/
namespace Go.Proofs.YtfhafednnnfmbaaDoor
open Go.ChangeShapes Go.WideShapes Go.ChangeAt Go.RowKit Go.Deep
set_option maxRecDepth 100000

def pubL (x : List UInt8) : List UInt8 := kL (multN (macL [] x) 9)
theorem pubL_len (x : List UInt8) : (pubL x).length = 32 := kL_len _
theorem pairL_eq (x : List UInt8) : pairL x = macL [] x ++ pubL x := rfl
theorem com_both {a b : List UInt8} : comL a (kL (multN b 9)) = comL b (kL (multN a 9)) := by
  unfold comL
  rw [ofV_kL (multN_lt _ _), ofV_kL (multN_lt _ _), mult_comm b a (show 9 < P25 by decide +kernel)]
/-- the secret of two pairs -/
def shL (x a : List UInt8) : List UInt8 := comL (macL [] x) (pubL a)
theorem shL_comm (x a : List UInt8) : shL x a = shL a x := com_both
theorem dh_pair (x a : List UInt8) : dhL (pairL x ++ pubL a) = shL x a := by rw [pairL_eq, dhL_app (macL_len _ _) (pubL_len _)]; rfl
def ksL (x y z a f : List UInt8) (h : Bool) : List (List UInt8) := [shL y a, shL x f, shL y f] ++ if h then [shL z f] else []
theorem ks_answer (x y z a f : List UInt8) (h : Bool) : ([pairL y ++ pubL a, pairL x ++ pubL f, pairL y ++ pubL f] ++ if h then [pairL z ++ pubL f] else []).map dhL = ksL x y z a f h := by
  cases h <;> simp [ksL, dh_pair]
theorem ks_begin (x y z a f o : List UInt8) (h : Bool) (ho : h = true → o = pubL z) : ([pairL a ++ pubL y, pairL f ++ pubL x, pairL f ++ pubL y] ++ if h then [pairL f ++ o] else []).map dhL = ksL x y z a f h := by
  cases h
  · simp [ksL, dh_pair, shL_comm a y, shL_comm f x, shL_comm f y]
  · simp [ksL, ho rfl, dh_pair, shL_comm a y, shL_comm f x, shL_comm f y, shL_comm f z]

end Go.Proofs.YtfhafednnnfmbaaDoor
end

section
/-
  The numbers of layer 9's awake: pure.
-/
namespace Go.Proofs.YtfhafednnnfmbaaDoor
open Go.ChangeShapes Go.WideShapes Go.ChangeAt Go.RowKit Go.Deep
set_option maxRecDepth 100000
theorem v_sA : macL [] [97] = [74, 13, 18, 152, 115, 64, 48, 55, 194, 205, 155, 144, 72, 32, 54, 135, 246, 35, 63, 182, 115, 137, 86, 224, 52, 155, 212, 50, 15, 236, 62, 144] := by decide +kernel
theorem v_sF : macL [] [102] = [119, 30, 49, 192, 96, 78, 107, 238, 160, 152, 64, 71, 86, 236, 92, 8, 205, 81, 71, 207, 71, 95, 167, 4, 52, 42, 107, 8, 108, 188, 220, 125] := by decide +kernel
theorem v_s1 : macL [] [1, 1] = [219, 113, 238, 215, 60, 191, 42, 183, 112, 247, 6, 89, 21, 161, 176, 112, 217, 134, 125, 247, 227, 234, 123, 36, 114, 47, 177, 89, 121, 235, 46, 100] := by decide +kernel
theorem v_s2 : macL [] [1, 2] = [118, 154, 196, 55, 10, 96, 62, 2, 202, 154, 129, 173, 194, 176, 101, 35, 210, 167, 100, 160, 9, 70, 210, 223, 254, 43, 102, 127, 189, 167, 31, 124] := by decide +kernel
theorem v_s3 : macL [] [1, 3] = [47, 34, 189, 155, 120, 137, 169, 246, 16, 113, 231, 8, 28, 112, 195, 109, 254, 237, 173, 182, 248, 107, 183, 67, 17, 79, 94, 188, 111, 80, 238, 16] := by decide +kernel
theorem v_pA : kL (multN [74, 13, 18, 152, 115, 64, 48, 55, 194, 205, 155, 144, 72, 32, 54, 135, 246, 35, 63, 182, 115, 137, 86, 224, 52, 155, 212, 50, 15, 236, 62, 144] 9) = [135, 252, 66, 216, 27, 155, 210, 23, 125, 9, 253, 4, 8, 227, 128, 29, 170, 139, 195, 239, 61, 89, 244, 64, 214, 193, 132, 94, 117, 226, 252, 114] := by decide +kernel
theorem v_pF : kL (multN [119, 30, 49, 192, 96, 78, 107, 238, 160, 152, 64, 71, 86, 236, 92, 8, 205, 81, 71, 207, 71, 95, 167, 4, 52, 42, 107, 8, 108, 188, 220, 125] 9) = [71, 92, 68, 167, 115, 206, 154, 190, 205, 107, 145, 62, 122, 27, 92, 42, 233, 223, 160, 4, 205, 23, 70, 13, 98, 109, 194, 51, 133, 47, 179, 124] := by decide +kernel
theorem v_k2A : comL [118, 154, 196, 55, 10, 96, 62, 2, 202, 154, 129, 173, 194, 176, 101, 35, 210, 167, 100, 160, 9, 70, 210, 223, 254, 43, 102, 127, 189, 167, 31, 124] [135, 252, 66, 216, 27, 155, 210, 23, 125, 9, 253, 4, 8, 227, 128, 29, 170, 139, 195, 239, 61, 89, 244, 64, 214, 193, 132, 94, 117, 226, 252, 114] = [161, 217, 230, 229, 10, 117, 159, 241, 143, 38, 190, 189, 133, 55, 226, 226, 106, 131, 239, 197, 93, 223, 69, 153, 128, 100, 153, 241, 118, 179, 36, 11] := by decide +kernel
theorem v_k1F : comL [219, 113, 238, 215, 60, 191, 42, 183, 112, 247, 6, 89, 21, 161, 176, 112, 217, 134, 125, 247, 227, 234, 123, 36, 114, 47, 177, 89, 121, 235, 46, 100] [71, 92, 68, 167, 115, 206, 154, 190, 205, 107, 145, 62, 122, 27, 92, 42, 233, 223, 160, 4, 205, 23, 70, 13, 98, 109, 194, 51, 133, 47, 179, 124] = [191, 157, 21, 201, 113, 54, 191, 20, 246, 185, 34, 54, 0, 68, 156, 116, 22, 182, 119, 68, 137, 128, 187, 234, 99, 154, 8, 180, 96, 37, 110, 65] := by decide +kernel
theorem v_k2F : comL [118, 154, 196, 55, 10, 96, 62, 2, 202, 154, 129, 173, 194, 176, 101, 35, 210, 167, 100, 160, 9, 70, 210, 223, 254, 43, 102, 127, 189, 167, 31, 124] [71, 92, 68, 167, 115, 206, 154, 190, 205, 107, 145, 62, 122, 27, 92, 42, 233, 223, 160, 4, 205, 23, 70, 13, 98, 109, 194, 51, 133, 47, 179, 124] = [100, 189, 128, 231, 45, 18, 0, 168, 184, 217, 126, 205, 48, 169, 218, 155, 253, 31, 207, 91, 67, 100, 56, 211, 179, 97, 159, 114, 57, 215, 131, 87] := by decide +kernel
theorem v_k3F : comL [47, 34, 189, 155, 120, 137, 169, 246, 16, 113, 231, 8, 28, 112, 195, 109, 254, 237, 173, 182, 248, 107, 183, 67, 17, 79, 94, 188, 111, 80, 238, 16] [71, 92, 68, 167, 115, 206, 154, 190, 205, 107, 145, 62, 122, 27, 92, 42, 233, 223, 160, 4, 205, 23, 70, 13, 98, 109, 194, 51, 133, 47, 179, 124] = [95, 59, 42, 89, 200, 54, 14, 26, 42, 108, 227, 15, 27, 133, 43, 231, 44, 60, 183, 108, 168, 97, 69, 239, 252, 193, 241, 23, 176, 69, 32, 31] := by decide +kernel
theorem aw9_keys : ksL [1, 1] [1, 2] [1, 3] [97] [102] true = [[161, 217, 230, 229, 10, 117, 159, 241, 143, 38, 190, 189, 133, 55, 226, 226, 106, 131, 239, 197, 93, 223, 69, 153, 128, 100, 153, 241, 118, 179, 36, 11], [191, 157, 21, 201, 113, 54, 191, 20, 246, 185, 34, 54, 0, 68, 156, 116, 22, 182, 119, 68, 137, 128, 187, 234, 99, 154, 8, 180, 96, 37, 110, 65], [100, 189, 128, 231, 45, 18, 0, 168, 184, 217, 126, 205, 48, 169, 218, 155, 253, 31, 207, 91, 67, 100, 56, 211, 179, 97, 159, 114, 57, 215, 131, 87], [95, 59, 42, 89, 200, 54, 14, 26, 42, 108, 227, 15, 27, 133, 43, 231, 44, 60, 183, 108, 168, 97, 69, 239, 252, 193, 241, 23, 176, 69, 32, 31]] := by
  have hA : pubL [97] = [135, 252, 66, 216, 27, 155, 210, 23, 125, 9, 253, 4, 8, 227, 128, 29, 170, 139, 195, 239, 61, 89, 244, 64, 214, 193, 132, 94, 117, 226, 252, 114] := by unfold pubL; rw [v_sA, v_pA]
  have hF : pubL [102] = [71, 92, 68, 167, 115, 206, 154, 190, 205, 107, 145, 62, 122, 27, 92, 42, 233, 223, 160, 4, 205, 23, 70, 13, 98, 109, 194, 51, 133, 47, 179, 124] := by unfold pubL; rw [v_sF, v_pF]
  have a : shL [1, 2] [97] = [161, 217, 230, 229, 10, 117, 159, 241, 143, 38, 190, 189, 133, 55, 226, 226, 106, 131, 239, 197, 93, 223, 69, 153, 128, 100, 153, 241, 118, 179, 36, 11] := by unfold shL; rw [v_s2, hA, v_k2A]
  have b : shL [1, 1] [102] = [191, 157, 21, 201, 113, 54, 191, 20, 246, 185, 34, 54, 0, 68, 156, 116, 22, 182, 119, 68, 137, 128, 187, 234, 99, 154, 8, 180, 96, 37, 110, 65] := by unfold shL; rw [v_s1, hF, v_k1F]
  have c : shL [1, 2] [102] = [100, 189, 128, 231, 45, 18, 0, 168, 184, 217, 126, 205, 48, 169, 218, 155, 253, 31, 207, 91, 67, 100, 56, 211, 179, 97, 159, 114, 57, 215, 131, 87] := by unfold shL; rw [v_s2, hF, v_k2F]
  have d : shL [1, 3] [102] = [95, 59, 42, 89, 200, 54, 14, 26, 42, 108, 227, 15, 27, 133, 43, 231, 44, 60, 183, 108, 168, 97, 69, 239, 252, 193, 241, 23, 176, 69, 32, 31] := by unfold shL; rw [v_s3, hF, v_k3F]
  unfold ksL
  rw [a, b, c, d]
  rfl
theorem aw9_whole : agE (ksL [1, 1] [1, 2] [1, 3] [97] [102] true) = 0 := by rw [aw9_keys]; decide +kernel
theorem aw9_key : decide (agV (ksL [1, 1] [1, 2] [1, 3] [97] [102] true) = List.replicate 32 0) = false := by rw [aw9_keys]; decide +kernel
end Go.Proofs.YtfhafednnnfmbaaDoor
end
