/-
  palfreylaw20: link, bundle, begun.
-/
import Derived.Test.YtbnjmmefnjoofaaDoorRy7
namespace Go.Proofs.YtbnjmmefnjoofaaDoor
open Go.ChangeShapes Go.WideShapes Go.ChangeAt Go.RowKit Go.Deep Go.Maps
set_option maxRecDepth 100000

/-- A number's byte. -/
def nB (n : Int) : UInt8 := UInt8.ofNat (n % 256).toNat
theorem nB_wrap (n : Int) : IntKind.u8.wrap n = ((nB n).toNat : Int) := by
  rw [IntKind.wrap_u8]
  unfold nB
  rw [UInt8.toNat_ofNat']
  omega
def kyL (n : Int) (x : UInt8) : List UInt8 := [nB n, x] ++ List.replicate 30 0
theorem kyL_len (n : Int) (x : UInt8) : (kyL n x).length = 32 := by simp [kyL]
def linkL (n : Int) : List UInt8 := kyL n 77
def onL : List UInt8 := [9] ++ List.replicate 31 0
theorem onL_len : onL.length = 32 := rfl
theorem zcells (n : Nat) : cellsOf (List.replicate n (0 : UInt8)) = List.replicate n (.int .u8 0) := by
  rw [cellsOf_map, List.map_replicate]
  rfl
theorem kyL_cells (n : Int) (x : UInt8) : cellsOf (kyL n x) = [Value.int .u8 ((nB n).toNat : Int), .int .u8 (x.toNat : Int)] ++ List.replicate 30 (Value.int .u8 0) := by
  unfold kyL
  rw [cellsOf_app, zcells]
  rfl
theorem ky_built (y x : Int) : Tryd.prog.built 23 [(0, .int .u8 y), (1, .int .u8 x)] = some ([Value.int .u8 y, .int .u8 x] ++ List.replicate 30 (Value.int .u8 0)).toArray := by kernel_rfl
theorem link_built (n : Int) (x : UInt8) : Tryd.prog.built 23 [(0, .int .u8 ((nB n).toNat : Int)), (1, .int .u8 (x.toNat : Int))] = some (cellsOf (kyL n x)).toArray := by rw [ky_built, kyL_cells]
theorem on_built : Tryd.prog.built 23 [(0, .int .u8 9)] = some (cellsOf onL).toArray := by kernel_rfl
theorem bundle4 {i s o : List UInt8} {h : Bool} (hi : i.length = 32) (hs : s.length = 32) (ho : o.length = 32) : Tryd.prog.built 53 [(0, .agg (cellsOf i).toArray), (1, .agg (cellsOf s).toArray), (2, .agg (cellsOf o).toArray), (3, .bool h)] = some (bbC (i ++ (s ++ o)) h).toArray := by
  obtain ⟨pl, ⟨q0, q1, q2, q3⟩, hp⟩ := bundle_fill
  rw [hp, zb_split, fill_step q0 (sz32 hi) (by simp [cellsOf_len]), cells_agg, splice_zero (by simpa using cl32 hi), fill_step q1 (sz32 hs) (by simp [cellsOf_len, hi]), cells_agg,
    splice_mid (by simp [cellsOf_len, hi]) (by simpa using cl32 hs)]
  simp only [List.toList_toArray]
  rw [← List.append_assoc (cellsOf i), fill_step q2 (sz32 ho) (by simp [cellsOf_len, hi, hs]), cells_agg, splice_mid (by simp [cellsOf_len, hi, hs]) (by simpa using cl32 ho)]
  simp only [List.toList_toArray]
  have e : (cellsOf i ++ cellsOf s) ++ (cellsOf o ++ [Value.bool false]) = ((cellsOf i ++ cellsOf s) ++ cellsOf o) ++ ([Value.bool false] ++ []) := by simp
  rw [e, fill_step q3 rfl (by simp [cellsOf_len, hi, hs, ho]), cells_bool, splice_mid (by simp [cellsOf_len, hi, hs, ho]) (by simp)]
  simp [Instr.fill, bbC, cellsOf_app]
set_option maxHeartbeats 2000000 in
theorem link_calls {w : World} {n : Int} : Calls Tryd.prog 18 #[.int .i64 n] w fun e w' => e = .returned (.agg (cellsOf (linkL n)).toArray) ∧ Ext w w' := by
  have hw := nB_wrap n
  have BL := Lib.hid (link_built n 77)
  have L : (linkL n).length = 32 := kyL_len n 77
  have hal := key_alloc16
  have S_Z := zeros32_size
  rw [show kyL n 77 = linkL n from rfl] at BL
  have bn : ((nB n).toNat : Int) ≤ 255 := by have := (nB n).toNat_lt; omega
  generalize linkL n = kk at *
  generalize nB n = b at *
  have S_k : (cellsOf kk).toArray.size = 32 := by simp [cellsOf_len, L]
  have O_k := cellsOf_one kk
  generalize zeros32 = Z at *
  have k0 : (w.alloc (.cells Z 23)).heap[w.heap.size]? = some (.cells Z 23 (0, 0)) := heap_alloc_new _ _
  have FIN : Hid (Ext w ((w.alloc (.cells Z 23)).setRow w.heap.size (cellsOf kk).toArray)) := below_setRow ((Ext.refl w).alloc _) (Nat.le_refl _) _
  go_enter Tryd.func18, Tryd.ntmps18
  go_wp2_with (first
    | (refine wpList_build_as rfl _ _ rfl (cellsOf kk).toArray (by simp only [List.map_toArray, List.map_cons, List.map_nil]; exact BL.out) ?_; go_frame)
    | (refine wpList_store_row rfl 23 _ _ rfl w.heap.size (cellsOf kk).toArray rfl rfl 23 Z k0 (by rw [S_k]; rfl) (by rw [S_k, S_Z]) O_k ?_; simp only [Act.put]))
  (try simp only [Exit.inBlock, Exit.then])
  refine bodyPost_ret (results_cell_row rfl _ _ w.heap.size 23 (cellsOf kk).toArray (0, 0) _ rfl (setRow_heap _ _ _ _ _ _ k0) rfl rfl (by rw [S_k]; rfl)) rfl ?_
  exact ⟨rfl, FIN.out⟩
/-- The bundle of an account. -/
def bunN (n : Int) : List Value := bbC (kyL n 1 ++ (kyL n 2 ++ onL)) true
theorem bunN_len (n : Int) : (bunN n).length = 97 := by unfold bunN; rw [bbC_len]; simp [kyL_len, onL_len]
set_option maxHeartbeats 2000000 in
theorem lbundle_calls {w : World} {n : Int} : Calls Tryd.prog 19 #[.int .i64 n] w fun e w' => e = .returned (.agg (bunN n).toArray) ∧ Ext w w' := by
  have hw := nB_wrap n
  have B1 := Lib.hid (link_built n 1)
  have B2 := Lib.hid (link_built n 2)
  have B3 := Lib.hid on_built
  have B4 := Lib.hid (bundle4 (h := true) (kyL_len n 1) (kyL_len n 2) onL_len)
  have L := bunN_len n
  rw [show bbC (kyL n 1 ++ (kyL n 2 ++ onL)) true = bunN n from rfl] at B4
  have hal := bundle_alloc
  have L_z : (bbC (List.replicate 96 0) false).length = 97 := rfl
  have O_b : Hid ((bunN n).toArray.all (·.oneCell') = true) := bbC_one _ _
  generalize bunN n = bb at *
  generalize kyL n 1 = k1 at *
  generalize kyL n 2 = k2 at *
  generalize onL = k3 at *
  generalize nB n = b at *
  generalize bbC (List.replicate 96 0) false = Z at *
  have S_z : Z.toArray.size = 97 := by rw [List.size_toArray, L_z]
  have S_b : bb.toArray.size = 97 := by rw [List.size_toArray, L]
  have k0 : (w.alloc (.cells Z.toArray 53)).heap[w.heap.size]? = some (.cells Z.toArray 53 (0, 0)) := heap_alloc_new _ _
  have FIN : Hid (Ext w ((w.alloc (.cells Z.toArray 53)).setRow w.heap.size bb.toArray)) := below_setRow ((Ext.refl w).alloc _) (Nat.le_refl _) _
  go_enter Tryd.func19, Tryd.ntmps19
  go_wp2_with (first
    | (refine wpList_build_as rfl _ _ rfl (cellsOf k1).toArray (by simp only [List.map_toArray, List.map_cons, List.map_nil]; exact B1.out) ?_; go_frame)
    | (refine wpList_build_as rfl _ _ rfl (cellsOf k2).toArray (by simp only [List.map_toArray, List.map_cons, List.map_nil]; exact B2.out) ?_; go_frame)
    | (refine wpList_build_as rfl _ _ rfl (cellsOf k3).toArray (by simp only [List.map_toArray, List.map_cons, List.map_nil]; exact B3.out) ?_; go_frame)
    | (refine wpList_build_as rfl _ _ rfl bb.toArray (by simp only [List.map_toArray, List.map_cons, List.map_nil]; exact B4.out) ?_; go_frame)
    | (refine wpList_store_row rfl 53 _ _ rfl w.heap.size bb.toArray rfl rfl 53 Z.toArray k0 (by rw [S_b]; rfl) (by rw [S_b, S_z]) O_b.out ?_; simp only [Act.put]))
  (try simp only [Exit.inBlock, Exit.then])
  refine bodyPost_ret (results_cell_row rfl _ _ w.heap.size 53 bb.toArray (0, 0) _ rfl (setRow_heap _ _ _ _ _ _ k0) rfl rfl (by rw [S_b]; rfl)) rfl ?_
  exact ⟨rfl, FIN.out⟩
section
variable {B B' g ticks N : Nat} {w : World} {root : List UInt8} {f : Nat → Option Ac}
theorem RY.lower (h : RY B w g root ticks f N) (hB : B' ≤ B) : RY B' w g root ticks f N := by
  obtain ⟨s, mb, q, own, EE, h⟩ := h
  exact ⟨s, mb, q, own, EE, ⟨h.cb, h.sr, h.en, h.ti, h.ac, ⟨Nat.le_trans hB h.lo.1, Nat.le_trans hB h.lo.2⟩, fun i j z => Nat.le_trans hB (h.ow i j z)⟩⟩
end
/-- A new one's data. -/
def Ac.isNew (a : Ac) (n : Nat) : Prop := a.lk = linkL (n : Int) ∧ a.ib = kyL (n : Int) 1 ∧ a.sb = kyL (n : Int) 2 ∧ a.K = [] ∧ a.out = false ∧ a.L = [] ∧ a.last = 0 ∧ a.t = 0 ∧ a.k = 5
/-- Accounts below k have been registered, just so. -/
def Bg (f : Nat → Option Ac) (k : Nat) : Prop := (∀ n, n < k → ∃ a, f n = some a ∧ a.isNew n) ∧ ∀ n, k ≤ n → f n = none
theorem Bg.more {f : Nat → Option Ac} {k : Nat} (h : Bg f k) {a : Ac} (ha : a.isNew k) : Bg (upd f k (some a)) (k + 1) := by
  refine ⟨fun n hn => ?_, fun n hn => ?_⟩
  · by_cases e : n = k
    · subst e; exact ⟨a, upd_same _ _ _, ha⟩
    · obtain ⟨b, hb, hn'⟩ := h.1 n (by omega)
      exact ⟨b, (upd_other _ _ e).trans hb, hn'⟩
  · rw [upd_other _ _ (by omega)]; exact h.2 n (by omega)
set_option maxHeartbeats 4000000 in
theorem begun20_calls {w : World} {root : List UInt8} (lr : root.length = 32) {B : Nat} (hB : B ≤ w.heap.size) : Calls Tryd.prog 21 #[.agg (cellsOf root).toArray] w fun e w' => ∃ (g : Nat) (f : Nat → Option Ac), e = .returned (.pointer (some ⟨g, 0, none⟩)) ∧ RY B w' g root 5 f 0 ∧ Bg f 3 ∧ B ≤ g ∧ Ext w w' := by
  have NW := Lib.hid (fun W : World => rnew_ok (w := W) (n := 5) lr (by omega) (by omega))
  have LK := Lib.hid (fun (W : World) (n : Nat) => link_calls (w := W) (n := (n : Int)))
  have BN := Lib.hid (fun (W : World) (n : Nat) => lbundle_calls (w := W) (n := (n : Int)))
  have S_r : (cellsOf root).toArray.size = 32 := by simp [cellsOf_len, lr]
  have B0 : Hid ((w.alloc (.cells (cellsOf root).toArray 23)).heap[w.heap.size]? = some (.cells (cellsOf root).toArray 23 (0, 0)) ∧ Ext w (w.alloc (.cells (cellsOf root).toArray 23))) := ⟨heap_alloc_new _ _, (Ext.refl w).alloc _⟩
  go_enter Tryd.func21, Tryd.ntmps21
  go_upto_region 1 with fail
  refine wp_gen (fun W => W.heap[w.heap.size]? = some (.cells (cellsOf root).toArray 23 (0, 0)) ∧ Ext w W) B0.out ?_
  clear B0
  rintro w0 ⟨k0, x0⟩
  replace x0 := Lib.hid x0
  go_wp2_with (first | ((with_reducible refine wpList_load_rowW (o := ⟨some 7, _, _, _, _, _⟩) ?_ 23 _ rfl w.heap.size ?_ 23 (cellsOf root).toArray (0, 0) _ ?_ Tryd.underlying23 ?_ ?_ ?_); (· rfl); (· rfl); (· exact k0); (· rfl); (· rw [S_r]; rfl); go_frame))
  refine (NW.out w0).mono ?_
  rintro e w1 ⟨g, rfl, hg, r1, x1⟩
  have R1 : Hid (RY w.heap.size w1 g root 5 (fun _ => none) 0) := r1.lower x0.out.size
  have X1 : Hid (Ext w w1) := x0.out.trans x1
  have gB : B ≤ g := Nat.le_trans hB (Nat.le_trans x0.out.size hg)
  clear k0 x0 x1 r1 NW hg
  go_wp2_with fail
  go_loopw [5] (fun v wr => ∃ (k : Nat) (f : Nat → Option Ac), k ≤ 3 ∧ v = .int .i64 (k : Int) ∧ RY w.heap.size wr g root 5 f 0 ∧ Bg f k ∧ Ext w wr) (fun v _ => 3 - (intOf v).toNat)
  case atStart => exact ⟨0, fun _ => none, by omega, rfl, R1.out, ⟨fun n hn => absurd hn (by omega), fun _ _ => rfl⟩, X1.out⟩
  case round =>
    obtain ⟨k, f, hk3, rfl, ry, bg, xr⟩ := hrel
    clear R1 X1
    replace ry := Lib.hid ry
    replace bg := Lib.hid bg
    replace xr := Lib.hid xr
    by_cases hlt : k < 3
    · have u1 : decide ((k : Int) < 3) = true := decide_eq_true (by omega)
      go_wp2_with fail
      refine (LK.out _ k).mono ?_
      rintro e w2 ⟨rfl, x2⟩
      replace x2 := Lib.hid x2
      go_wp2_with fail
      refine (BN.out _ k).mono ?_
      rintro e w3 ⟨rfl, x3⟩
      have X3 : Hid (Ext wr w3) := x2.out.trans x3
      have RG := Lib.hid (register_ok (B := w.heap.size) (K := []) (A := none) (m := 0) (c := 0) (ho := true) (ry.out.ext X3.out) (Nat.le_trans xr.out.size X3.out.size) (bg.out.2 k (Nat.le_refl _)) (by omega) (by omega) (kyL_len (k : Int) 77) (kyL_len (k : Int) 1) (kyL_len (k : Int) 2) onL_len (Kc.nil _).1)
      rw [show bbC (kyL (k : Int) 1 ++ (kyL (k : Int) 2 ++ onL)) true = bunN (k : Int) from rfl, show kyL (k : Int) 77 = linkL (k : Int) from rfl] at RG
      have NEWA : Hid (∀ A' c' bx tk, (newA (linkL (k : Int)) (kyL (k : Int) 1) (kyL (k : Int) 2) A' 0 c' [] bx tk).isNew k) := fun _ _ _ _ => ⟨rfl, rfl, rfl, rfl, rfl, rfl, rfl, rfl, rfl⟩
      clear x2 x3
      generalize newA (linkL (k : Int)) (kyL (k : Int) 1) (kyL (k : Int) 2) = NA at *
      generalize linkL (k : Int) = lk at *
      generalize bunN (k : Int) = bn at *
      go_wp2_with fail
      refine RG.out.mono ?_
      rintro e w4 ⟨rfl, ⟨A', c', bx, tk, r4⟩, t4⟩
      replace r4 := Lib.hid r4
      have X4 : Hid (Ext w w4) := Tm.ext (xr.out.trans X3.out) t4
      clear RG t4
      go_wp2_with fail
      go_round
      case rel => exact ⟨k + 1, _, by omega, by go_num, r4.out, bg.out.more (NEWA.out A' c' bx tk), X4.out⟩
      case measure => simp [intOf]; omega
    · obtain rfl : k = 3 := by omega
      have u1 : decide ((3 : Int) < 3) = false := by decide
      rw [show ((3 : Nat) : Int) = 3 from rfl]
      go_wp2_with fail
      go_ret
      exact ⟨g, f, rfl, ry.out.lower hB, bg.out, gB, xr.out⟩
end Go.Proofs.YtbnjmmefnjoofaaDoor
