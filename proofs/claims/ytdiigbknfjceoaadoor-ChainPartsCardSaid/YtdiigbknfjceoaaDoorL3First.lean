/-
  KdfFirst: a purpose's key hangs on it alone.
-/
import Derived.Test.YtdiigbknfjceoaaDoorAwake3
import Derived.Test.YtdiigbknfjceoaaDoorConvS
import Derived.Test.YtdiigbknfjceoaaDoorSeqT
namespace Go.Proofs.YtdiigbknfjceoaaDoor
open Go.ChangeShapes Go.WideShapes Go.ChangeAt Go.RowKit Go.Deep

theorem strL_eta (s : ByteArray) : strL s.data.toList = s := by cases s; simp [strL]
theorem str_lit {W : World} {t : TypeId} {l : List (List UInt8)} {n : Nat} (hn : l.length = n) : Ss (W.alloc (.cells (l.map fun x => Value.string (strL x)).toArray t)) (some ⟨W.heap.size, 0, none⟩) n l := by
  refine ⟨hn, fun _ => ⟨_, 0, rfl, by rw [size_alloc]; omega, fun j hj => ?_⟩⟩
  rw [cell_of_row _ _ _ _ _ (0, 0) (heap_alloc_new _ _)]
  simp [List.getD, show j < l.length by omega]

set_option maxRecDepth 100000 in
set_option maxHeartbeats 1000000 in
theorem kdfFirst_out {ks ps qs : List UInt8} {w : World} (hk : ks.length = 32) (hq : 300 < ps.length ∨ 300 < qs.length) {tg : TypeId × Nat × Nat} (hG : Gl w tg) :
    Calls Tryd.prog 8 #[.agg (cellsOf ks).toArray, .string (strL ps), .string (strL qs)] w fun e w' => e = .returned (.bool true) ∧ Ext w w' := by
  have AW := Lib.hid (fun (W : World) (e : Ext w W) => awake_calls (hG.kept e hG.lt))
  have sa := strL_size ps
  have sb := strL_size qs
  clear hG
  generalize strL ps = sA at *
  generalize strL qs = sB at *
  by_cases q1 : 300 < ps.length
  · have q1' : decide ((300 : Int) < (sA.size : Int)) = true := decide_eq_true (by omega)
    clear hq sa sb
    go_enter Tryd.func8, Tryd.ntmps8
    go_wp2_with fail
    refine (AW.out _ ((Ext.refl w).alloc _)).mono ?_
    rintro e w1 ⟨rfl, e1⟩
    go_wp2_with fail
    go_ret
    exact ⟨rfl, ((Ext.refl w).alloc _).trans e1⟩
  · have q1' : decide ((300 : Int) < (sA.size : Int)) = false := decide_eq_false (by omega)
    have q2' : decide ((300 : Int) < (sB.size : Int)) = true := decide_eq_true (by omega)
    clear hq sa sb
    go_enter Tryd.func8, Tryd.ntmps8
    go_wp2_with fail
    refine (AW.out _ ((Ext.refl w).alloc _)).mono ?_
    rintro e w1 ⟨rfl, e1⟩
    go_wp2_with fail
    go_ret
    exact ⟨rfl, ((Ext.refl w).alloc _).trans e1⟩

set_option maxRecDepth 100000 in
set_option maxHeartbeats 2000000 in
theorem kdfFirst_main {ks ps qs : List UInt8} {w : World} (hk : ks.length = 32) (h1 : ps.length ≤ 300) (h2 : qs.length ≤ 300) {tg : TypeId × Nat × Nat} (hG : Gl w tg) :
    Calls Tryd.prog 8 #[.agg (cellsOf ks).toArray, .string (strL ps), .string (strL qs)] w fun e w' => e = .returned (.bool true) ∧ Ext w w' := by
  have AW := Lib.hid (fun (W : World) (e : Ext w W) => awake_calls (hG.kept e hG.lt))
  have HG : Hid (∀ wr : World, Ext w wr → Gl wr tg) := fun wr e => hG.kept e hG.lt
  clear hG
  have q1' : decide ((300 : Int) < ((strL ps).size : Int)) = false := decide_eq_false (by rw [strL_size]; omega)
  have q2' : decide ((300 : Int) < ((strL qs).size : Int)) = false := decide_eq_false (by rw [strL_size]; omega)
  have MAC : Hid (∀ W A c, Ext w W → Ky W w.heap.size ks → Bs W A (ps.length + 1) c (ps ++ [1]) → Calls Tryd.prog 16 #[.slice (some ⟨w.heap.size, 0, none⟩) 32 32, .slice A (ps.length + 1) c] W fun e w' => e = .returned (.tuple #[.agg (cellsOf (keyL ks ps)).toArray, .int .i64 0]) ∧ Ext W w') := fun W A c e ky b => mac_calls ky.bs b (by omega) (HG.out _ e)
  have KEYS3 : Hid (∀ (W : World) t, Ext w W → Calls Tryd.prog 25 #[.agg (cellsOf ks).toArray, .slice (some ⟨W.heap.size, 0, none⟩) 3 3] (W.alloc (.cells #[.string (strL ps), .string (strL qs), .string (strL ps)] t)) (RetKs [keyL ks ps, keyL ks qs, keyL ks ps] (W.alloc (.cells #[.string (strL ps), .string (strL qs), .string (strL ps)] t)))) := fun W t e =>
    keys_calls (ks := ks) (l := [ps, qs, ps]) hk (str_lit rfl) (by omega) (fun j => by
      match j with
      | 0 => show ps.length ≤ _; omega
      | 1 => show qs.length ≤ _; omega
      | 2 => show ps.length ≤ _; omega
      | j + 3 => simp [List.getD]) (HG.out _ (e.alloc _))
  have KEYS1 : Hid (∀ (W : World) t, Ext w W → Calls Tryd.prog 25 #[.agg (cellsOf ks).toArray, .slice (some ⟨W.heap.size, 0, none⟩) 1 1] (W.alloc (.cells #[.string (strL qs)] t)) (RetKs [keyL ks qs] (W.alloc (.cells #[.string (strL qs)] t)))) := fun W t e =>
    keys_calls (ks := ks) (l := [qs]) hk (str_lit rfl) (by omega) (fun j => by
      match j with
      | 0 => show qs.length ≤ _; omega
      | j + 1 => simp [List.getD]) (HG.out _ (e.alloc _))
  have ka := keyL_len ks ps
  have kb := keyL_len ks qs
  generalize keyL ks ps = k0 at *
  generalize keyL ks qs = k1 at *
  obtain ⟨cp, cw, hcv, hcw⟩ := conv_str ps (by omega)
  replace hcw := Lib.hid hcw
  have ky0 : Hid (Ky (w.alloc (Obj.cells (cellsOf ks).toArray 25)) w.heap.size ks) := Ky.boxed w hk
  have KS : (cellsOf ks).toArray.size = 32 := by simp [cellsOf_len, hk]
  have hal := key_alloc
  have hz0 := zeros32_size
  generalize zeros32 = Z at *
  have HM : (cellsOf k0).toArray.size = 32 := by simp [cellsOf_len, ka]
  have HM1 := cellsOf_one k0
  generalize strL ps = sA at *
  generalize strL qs = sB at *
  generalize hna : ps.length = na at *
  replace hna := Lib.hid hna
  go_enter Tryd.func8, Tryd.ntmps8
  go_wp2_with fail
  refine (AW.out _ ((Ext.refl w).alloc _)).mono ?_
  rintro e w1 ⟨rfl, e1⟩
  have E1 : Hid (Ext w w1) := ((Ext.refl w).alloc _).trans e1
  have ky1 := Lib.hid (ky0.out.ext e1)
  clear AW ky0 e1
  go_wp2_with fail
  go_cut [8] (fun s8 wx => ∃ g : Nat, s8 = .pointer (some ⟨g, 0, none⟩) ∧ Ext w wx ∧ Ky wx g k0 ∧ Ky wx w.heap.size ks)
  case first =>
    refine wp_region_tree (R := Below w1.heap.size) (Below.refl _) (fun _ _ _ => Below.trans) (.rd 0 (.rd 1 (.alt 2 (.alt 3 (.alt 4 (.alt 5 (.rd 6 (.rd 7 (.rd 8 (.alt 9 (.alt 10 (.rd 11 .nil) .stop) .stop)))) (.alt 9 (.alt 5 (.rd 6 (.rd 7 (.rd 8 (.alt 10 (.rd 11 .nil) .stop)))) .stop) .stop)) (.alt 9 (.alt 4 (.alt 5 (.rd 6 (.rd 7 (.rd 8 (.alt 10 (.rd 11 .nil) .stop)))) .stop) .stop) .stop)) (.alt 9 (.alt 3 (.alt 4 (.alt 5 (.rd 6 (.rd 7 (.rd 8 (.alt 10 (.rd 11 .nil) .stop)))) .stop) .stop) .stop) .stop)) (.alt 3 (.alt 2 (.alt 4 (.alt 5 (.rd 6 (.rd 7 (.rd 8 (.alt 9 (.alt 10 (.rd 11 .nil) .stop) .stop)))) (.alt 9 (.alt 5 (.rd 6 (.rd 7 (.rd 8 (.alt 10 (.rd 11 .nil) .stop)))) .stop) .stop)) (.alt 9 (.alt 4 (.alt 5 (.rd 6 (.rd 7 (.rd 8 (.alt 10 (.rd 11 .nil) .stop)))) .stop) .stop) .stop)) (.alt 9 (.alt 2 (.alt 4 (.alt 5 (.rd 6 (.rd 7 (.rd 8 (.alt 10 (.rd 11 .nil) .stop)))) .stop) .stop) .stop) .stop)) (.alt 9 (.alt 2 (.alt 3 (.alt 4 (.alt 5 (.rd 6 (.rd 7 (.rd 8 (.alt 10 (.rd 11 .nil) .stop)))) .stop) .stop) .stop) (.alt 3 (.alt 2 (.alt 4 (.alt 5 (.rd 6 (.rd 7 (.rd 8 (.alt 10 (.rd 11 .nil) .stop)))) .stop) .stop) .stop) .stop)) .stop))))) [(0, 24, 16), (0, 25, 4), (2, 26, 33554432), (0, 27, 0), (12, 28, 201326592), (17, 29, 285212672), (32, 23, 536870912), (64, 30, 8388608), (64, 31, 8388608), (0, 9, 0), (767, 0, 1073742336), (2047, 10, 2147483648)] 12 (by kernel_rfl) (by kernel_rfl) (by kernel_rfl) rfl (by kernel_rfl) (by kernel_rfl) (fun _ _ d _ _ h => by cases d <;> exact h) ?_
    repeat (first | (refine seqT_read (fun _ => True) (fun _ _ => trivial) _ (v := ?_) rfl ?_ ?_ ?_; rotate_left; (· rfl); (· intro w' hF; go_simp; (try with_reducible rfl)); simp only [Act.put, List.setIfInBounds_toArray, List.set_cons_zero, List.set_cons_succ]) | (refine seqT_skip _ rfl ?_ ?_; (· rfl); simp only [Act.put, List.setIfInBounds_toArray, List.set_cons_zero, List.set_cons_succ]))
    have S0 : Hid (Ext w w1.drew) := E1.out.drew
    have kyC : Hid (Ky w1.drew w.heap.size ks) := ky1.out.ext (Ext.refl w1).drew
    have zz : w.heap.size < w1.heap.size := heap_lt ky1.out.1
    have z0 : w1.heap.size ≤ w1.drew.heap.size := Nat.le_refl _
    generalize w1.drew = WC at *
    clear ky1 KEYS1 KEYS3
    repeat' (first
      | exact seqT_stop
      | (refine seqT_do (i := 2) _ rfl ?_ ?_ (fun K1 hK1 => ?_)
         (· rfl)
         rotate_left
         go_simp
         have e := (hcw.out WC).1
         have hC' := Lib.hid (hcw.out WC).2
         obtain ⟨gC, hgC⟩ : ∃ g, g = WC.heap.size := ⟨_, rfl⟩
         rw [← hgC] at hC' ⊢
         have zc1 : gC < (cw WC).heap.size := heap_lt hC'.out.2.2.2.choose_spec.1
         have zc2 : w1.heap.size ≤ gC := by omega
         have zc3 : WC.heap.size ≤ gC := by omega
         refine hK1.out _ (cw WC) (e.mono z0) ?_
         clear hK1 K1
         (try replace hC := Lib.hid (hC.out.ext e)); (try replace hB := Lib.hid (hB.out.ext e)); (try replace hA := Lib.hid (hA.out.ext e)); (try replace hL := Lib.hid ((e.block _ (heap_lt hL.out)).trans hL.out)); replace S0 := Lib.hid (S0.out.trans e); replace kyC := Lib.hid (kyC.out.ext e); have z1 := Nat.le_trans z0 e.size; have ze := e.size; clear z0; have z0 := z1; clear z1 e
         have hC := hC'
         clear hC'
         replace hgC := Lib.hid hgC
         generalize cw WC = WC at *
         (try simp only [Act.put, List.setIfInBounds_toArray, List.set_cons_zero, List.set_cons_succ])
         repeat (first | (refine seqT_read (fun _ => True) (fun _ _ => trivial) _ (v := ?_) rfl ?_ ?_ ?_; rotate_left; (· rfl); (· intro w' hF; go_simp; (try with_reducible rfl)); simp only [Act.put, List.setIfInBounds_toArray, List.set_cons_zero, List.set_cons_succ]) | (refine seqT_skip _ rfl ?_ ?_; (· rfl); simp only [Act.put, List.setIfInBounds_toArray, List.set_cons_zero, List.set_cons_succ]))
         skip)
      | (refine seqT_do (i := 3) _ rfl ?_ ?_ (fun K1 hK1 => ?_)
         (· rfl)
         rotate_left
         go_simp
         have e : Ext WC (WC.alloc (Obj.cells #[.int .u8 1] 5)) := (Ext.refl WC).alloc _
         have hB' : Hid (Bs (WC.alloc (Obj.cells #[.int .u8 1] 5)) (some ⟨WC.heap.size, 0, none⟩) 1 1 [1]) := Bs.one WC 5 (0, 0) 1
         refine hK1.out _ (WC.alloc (Obj.cells #[.int .u8 1] 5)) (e.mono z0) ?_
         clear hK1 K1
         (try replace hC := Lib.hid (hC.out.ext e)); (try replace hB := Lib.hid (hB.out.ext e)); (try replace hA := Lib.hid (hA.out.ext e)); (try replace hL := Lib.hid ((e.block _ (heap_lt hL.out)).trans hL.out)); replace S0 := Lib.hid (S0.out.trans e); replace kyC := Lib.hid (kyC.out.ext e); have z1 := Nat.le_trans z0 e.size; have ze := e.size; clear z0; have z0 := z1; clear z1 e
         have hB := hB'
         clear hB'
         generalize WC.alloc (Obj.cells #[.int .u8 1] 5) = WC at *
         (try simp only [Act.put, List.setIfInBounds_toArray, List.set_cons_zero, List.set_cons_succ])
         repeat (first | (refine seqT_read (fun _ => True) (fun _ _ => trivial) _ (v := ?_) rfl ?_ ?_ ?_; rotate_left; (· rfl); (· intro w' hF; go_simp; (try with_reducible rfl)); simp only [Act.put, List.setIfInBounds_toArray, List.set_cons_zero, List.set_cons_succ]) | (refine seqT_skip _ rfl ?_ ?_; (· rfl); simp only [Act.put, List.setIfInBounds_toArray, List.set_cons_zero, List.set_cons_succ]))
         skip)
      | (refine seqT_do (i := 4) _ rfl ?_ ?_ (fun K1 hK1 => ?_)
         (· rfl)
         rotate_left
         refine wp_append_conv rfl rfl rfl hC.out (by omega) hB.out ?_
         intro A4 c4 WC b4 g4
         have rel : Below w1.heap.size _ WC := ⟨g4.os, g4.tape, g4.output, g4.size, fun i hi => g4.block i (Nat.lt_of_lt_of_le hi z0) (fun q => by injection q with q; omega)⟩
         refine hK1.out _ _ rel ?_
         clear hK1 K1 hB hC
         (try replace hL := Lib.hid ((g4.block _ (heap_lt hL.out) (fun q => by injection q with q; omega)).trans hL.out))
         replace S0 : Hid (Ext w WC) := Below.trans S0.out (rel.mono (by omega))
         replace kyC : Hid (Ky WC w.heap.size ks) := ⟨(rel.block _ zz).trans kyC.out.1, hk⟩
         have hA := Lib.hid b4
         have z1 := Nat.le_trans z0 rel.size
         have ze := rel.size
         clear z0
         have z0 := z1
         clear z1 b4 g4 rel
         (try simp only [Act.put, List.setIfInBounds_toArray, List.set_cons_zero, List.set_cons_succ])
         repeat (first | (refine seqT_read (fun _ => True) (fun _ _ => trivial) _ (v := ?_) rfl ?_ ?_ ?_; rotate_left; (· rfl); (· intro w' hF; go_simp; (try with_reducible rfl)); simp only [Act.put, List.setIfInBounds_toArray, List.set_cons_zero, List.set_cons_succ]) | (refine seqT_skip _ rfl ?_ ?_; (· rfl); simp only [Act.put, List.setIfInBounds_toArray, List.set_cons_zero, List.set_cons_succ]))
         skip)
      | (refine seqT_do (i := 5) _ rfl ?_ ?_ (fun K1 hK1 => ?_)
         (· rfl)
         rotate_left
         go_simp
         refine (MAC.out _ _ _ S0.out kyC.out hA.out).mono ?_
         rintro e0 WC ⟨rfl, e⟩
         refine hK1.out _ _ (e.mono z0) ?_
         clear hK1 K1 hA
         (try replace hC := Lib.hid (hC.out.ext e)); (try replace hB := Lib.hid (hB.out.ext e)); (try replace hA := Lib.hid (hA.out.ext e)); (try replace hL := Lib.hid ((e.block _ (heap_lt hL.out)).trans hL.out)); replace S0 := Lib.hid (S0.out.trans e); replace kyC := Lib.hid (kyC.out.ext e); have z1 := Nat.le_trans z0 e.size; have ze := e.size; clear z0; have z0 := z1; clear z1 e
         (try simp only [Act.put, List.setIfInBounds_toArray, List.set_cons_zero, List.set_cons_succ])
         repeat (first | (refine seqT_read (fun _ => True) (fun _ _ => trivial) _ (v := ?_) rfl ?_ ?_ ?_; rotate_left; (· rfl); (· intro w' hF; go_simp; (try with_reducible rfl)); simp only [Act.put, List.setIfInBounds_toArray, List.set_cons_zero, List.set_cons_succ]) | (refine seqT_skip _ rfl ?_ ?_; (· rfl); simp only [Act.put, List.setIfInBounds_toArray, List.set_cons_zero, List.set_cons_succ]))
         skip)
      | (refine seqT_do (i := 9) _ rfl ?_ ?_ (fun K1 hK1 => ?_)
         (· rfl)
         rotate_left
         go_simp
         have e : Ext WC (WC.alloc (Obj.cells Z 25)) := (Ext.refl WC).alloc _
         obtain ⟨gL, hgL⟩ : ∃ g, g = WC.heap.size := ⟨_, rfl⟩
         have hL' := Lib.hid (heap_alloc_new WC (Obj.cells Z 25))
         rw [← hgL] at hL' ⊢
         have zl1 : gL < (WC.alloc (Obj.cells Z 25)).heap.size := heap_lt hL'.out
         have zl2 : w1.heap.size ≤ gL := by omega
         have zl3 : WC.heap.size ≤ gL := by omega
         refine hK1.out _ (WC.alloc (Obj.cells Z 25)) (e.mono z0) ?_
         clear hK1 K1
         (try replace hC := Lib.hid (hC.out.ext e)); (try replace hB := Lib.hid (hB.out.ext e)); (try replace hA := Lib.hid (hA.out.ext e)); (try replace hL := Lib.hid ((e.block _ (heap_lt hL.out)).trans hL.out)); replace S0 := Lib.hid (S0.out.trans e); replace kyC := Lib.hid (kyC.out.ext e); have z1 := Nat.le_trans z0 e.size; have ze := e.size; clear z0; have z0 := z1; clear z1 e
         have hL := hL'
         clear hL'
         replace hgL := Lib.hid hgL
         generalize WC.alloc (Obj.cells Z 25) = WC at *
         (try simp only [Act.put, List.setIfInBounds_toArray, List.set_cons_zero, List.set_cons_succ])
         repeat (first | (refine seqT_read (fun _ => True) (fun _ _ => trivial) _ (v := ?_) rfl ?_ ?_ ?_; rotate_left; (· rfl); (· intro w' hF; go_simp; (try with_reducible rfl)); simp only [Act.put, List.setIfInBounds_toArray, List.set_cons_zero, List.set_cons_succ]) | (refine seqT_skip _ rfl ?_ ?_; (· rfl); simp only [Act.put, List.setIfInBounds_toArray, List.set_cons_zero, List.set_cons_succ]))
         skip)
      | (refine seqT_do (i := 10) _ rfl ?_ ?_ (fun K1 hK1 => ?_)
         (· rfl)
         rotate_left
         refine wp_store_row _ _ _ rfl gL (cellsOf k0).toArray rfl rfl 25 Z hL.out (by rw [HM]; rfl) (by rw [HM]; exact hz0) HM1 ?_
         refine hK1.out _ _ (below_setRow (Below.refl _ _) zl2 _) ?_
         clear hK1 K1
         have S1 : Hid (Ext w (WC.setRow gL (cellsOf k0).toArray)) := below_setRow S0.out (by omega) _
         have kx : Hid (Ky (WC.setRow gL (cellsOf k0).toArray) gL k0) := ⟨setRow_heap _ _ _ _ _ _ hL.out, ka⟩
         have ky : Hid (Ky (WC.setRow gL (cellsOf k0).toArray) w.heap.size ks) := ⟨(setRow_other _ _ _ _ (by omega)).trans kyC.out.1, hk⟩
         (try simp only [Act.put, List.setIfInBounds_toArray, List.set_cons_zero, List.set_cons_succ])
         repeat (first | (refine seqT_read (fun _ => True) (fun _ _ => trivial) _ (v := ?_) rfl ?_ ?_ ?_; rotate_left; (· rfl); (· intro w' hF; go_simp; (try with_reducible rfl)); simp only [Act.put, List.setIfInBounds_toArray, List.set_cons_zero, List.set_cons_succ]) | (refine seqT_skip _ rfl ?_ ?_; (· rfl); simp only [Act.put, List.setIfInBounds_toArray, List.set_cons_zero, List.set_cons_succ]))
         refine seqT_done ?_
         go_wp2_with fail
         go_meet
         exact ⟨gL, rfl, S1.out, kx.out, ky.out⟩)
      )
  case rest =>
    obtain ⟨g, rfl, E2, kx, ky⟩ := hcut
    clear ky1 MAC hcv hcw E1
    replace E2 := Lib.hid E2
    replace kx := Lib.hid kx
    replace ky := Lib.hid ky
    go_wp2_with (refine wpList_load_row rfl 25 _ rfl w.heap.size rfl 25 (cellsOf ks).toArray (0, 0) _ ky.out.1 rfl rfl (by rw [KS]; rfl) ?_; simp only [Act.put, List.setIfInBounds_toArray, List.set_cons_zero, List.set_cons_succ])
    refine (KEYS3.out _ _ E2.out).mono ?_
    rintro e w3 ⟨g3, rfl, hg3, kr, e3⟩
    replace e3 : Ext _ w3 := ((Ext.refl wc).alloc _).trans e3
    replace E2 := Lib.hid (E2.out.trans e3)
    replace kx := Lib.hid (kx.out.ext e3)
    replace ky := Lib.hid (ky.out.ext e3)
    replace kr := Lib.hid kr
    clear KEYS3 hg3 e3
    go_wp2_with (refine wpList_load_row rfl 25 _ rfl w.heap.size rfl 25 (cellsOf ks).toArray (0, 0) _ ky.out.1 rfl rfl (by rw [KS]; rfl) ?_; simp only [Act.put, List.setIfInBounds_toArray, List.set_cons_zero, List.set_cons_succ])
    refine (KEYS1.out _ _ E2.out).mono ?_
    rintro e w4 ⟨g4, rfl, hg4, kr4, e4⟩
    replace e4 : Ext _ w4 := ((Ext.refl w3).alloc _).trans e4
    replace E2 := Lib.hid (E2.out.trans e4)
    replace kx := Lib.hid (kx.out.ext e4)
    replace kr := Lib.hid (kr.out.ext e4)
    replace kr4 := Lib.hid kr4
    clear KEYS1 hg4 e4 ky
    have R0 : Hid (∀ w', Ext w4 w' → ∀ i v, (cellsOf k0)[i]? = some v → w'.cell? ⟨g3, 0 + i, none⟩ = some v) := fun w' e => (kr.out.ext e).row (j := 0) (by simp)
    have R1 : Hid (∀ w', Ext w4 w' → ∀ i v, (cellsOf k1)[i]? = some v → w'.cell? ⟨g3, 32 + i, none⟩ = some v) := fun w' e => (kr.out.ext e).row (j := 1) (by simp)
    have R2 : Hid (∀ w', Ext w4 w' → ∀ i v, (cellsOf k0)[i]? = some v → w'.cell? ⟨g3, 64 + i, none⟩ = some v) := fun w' e => (kr.out.ext e).row (j := 2) (by simp)
    have R3 : Hid (∀ w', Ext w4 w' → ∀ i v, (cellsOf k1)[i]? = some v → w'.cell? ⟨g4, 0 + i, none⟩ = some v) := fun w' e => (kr4.out.ext e).row (j := 0) (by simp)
    have C0 : (cellsOf k0).length = 32 := by rw [cellsOf_len, ka]
    have C1 : (cellsOf k1).length = 32 := by rw [cellsOf_len, kb]
    have d0 : Hid (decide (k0 = k0) = true) := decide_eq_true rfl
    have d1 : Hid (decide (k1 = k1) = true) := decide_eq_true rfl
    go_wp2_with fail
    refine wp_region_seq (R := Ext) Ext.refl (fun _ _ _ => Ext.trans) [0, 1, 2, 3, 4, 5, 6, 7, 8, 9, 10, 11, 12, 13, 14, 15, 16, 17, 18, 19, 20, 21, 22, 23, 24] [] [(0, 50, 256), (1, 51, 1125899906842624), (2, 52, 2251799813687296), (6, 53, 6755399441055744), (10, 54, 11258999068426240), (2, 55, 2251799813685760), (50, 56, 56294995342131200), (66, 57, 74309393851613184), (130, 58, 144115188075855872), (256, 59, 288230376151713792), (768, 60, 864691128455135232), (1280, 61, 1441151880758558720), (256, 62, 288230376151712256), (6400, 63, 7205759403792793600), (8448, 64, 9511602413006487552), (16640, 65, 18446744073709551616), (32768, 66, 36893488147419105280), (98304, 67, 110680464442257309696), (163840, 68, 184467440737095516160), (32768, 69, 36893488147419107328), (557056, 70, 627189298506124754944), (1081344, 71, 1217485108864830406656), (2392064, 72, 2693224634761594535936), (4227072, 73, 4759259971017064316928), (16777215, 7, 9444732965739290427392)] (by kernel_rfl) (by kernel_rfl) (by kernel_rfl) rfl (by kernel_rfl) (by kernel_rfl) (fun _ _ d _ _ h => by cases d <;> exact h) ?_
    repeat (first | (refine seq_read (fun _ => True) (fun _ _ => trivial) _ (v := ?_) rfl rfl (by rfl) ?_ ?_; rotate_left; (· intro w' hF; go_simp; (try with_reducible rfl)); simp only [Act.put, List.setIfInBounds_toArray, List.set_cons_zero, List.set_cons_succ]) | (refine seq_skip _ rfl rfl (by rfl) ?_; simp only [Act.put, List.setIfInBounds_toArray, List.set_cons_zero, List.set_cons_succ]))
    refine seq_read (fun w' => ∀ j v, (cellsOf k0)[j]? = some v → w'.cell? ⟨g3, 0 + j, none⟩ = some v) (fun w' e => R0.out w' ((Ext.refl _).drew.trans e)) _ (v := .agg (cellsOf k0).toArray) rfl rfl (by rfl) (fun w' hF => exec_load_mid rfl rfl hF rfl rfl (by rw [C0]; rfl)) ?_
    simp only [Act.put, List.setIfInBounds_toArray, List.set_cons_zero, List.set_cons_succ]
    repeat (first | (refine seq_read (fun _ => True) (fun _ _ => trivial) _ (v := ?_) rfl rfl (by rfl) ?_ ?_; rotate_left; (· intro w' hF; go_simp; (try with_reducible rfl)); simp only [Act.put, List.setIfInBounds_toArray, List.set_cons_zero, List.set_cons_succ]) | (refine seq_skip _ rfl rfl (by rfl) ?_; simp only [Act.put, List.setIfInBounds_toArray, List.set_cons_zero, List.set_cons_succ]))
    refine seq_read (fun w' => w'.heap[g]? = some (.cells (cellsOf k0).toArray 25 (0, 0))) (fun w' e => (kx.out.ext ((Ext.refl _).drew.trans e)).1) _ (v := .agg (cellsOf k0).toArray) rfl rfl (by rfl) (fun w' hF => exec_load_row rfl rfl hF rfl rfl (by rw [HM]; rfl)) ?_
    simp only [Act.put, List.setIfInBounds_toArray, List.set_cons_zero, List.set_cons_succ]
    repeat (first | (refine seq_read (fun _ => True) (fun _ _ => trivial) _ (v := ?_) rfl rfl (by rfl) ?_ ?_; rotate_left; (· intro w' hF; go_simp; (try with_reducible rfl)); simp only [Act.put, List.setIfInBounds_toArray, List.set_cons_zero, List.set_cons_succ]) | (refine seq_skip _ rfl rfl (by rfl) ?_; simp only [Act.put, List.setIfInBounds_toArray, List.set_cons_zero, List.set_cons_succ]))
    refine seq_read (fun _ => True) (fun _ _ => trivial) _ (v := .bool true) rfl rfl (by rfl) (fun w' _ => exec_eql_keyB (decide_eq_true rfl) ka ka rfl rfl rfl) ?_
    simp only [Act.put, List.setIfInBounds_toArray, List.set_cons_zero, List.set_cons_succ]
    repeat (first | (refine seq_read (fun _ => True) (fun _ _ => trivial) _ (v := ?_) rfl rfl (by rfl) ?_ ?_; rotate_left; (· intro w' hF; go_simp; (try with_reducible rfl)); simp only [Act.put, List.setIfInBounds_toArray, List.set_cons_zero, List.set_cons_succ]) | (refine seq_skip _ rfl rfl (by rfl) ?_; simp only [Act.put, List.setIfInBounds_toArray, List.set_cons_zero, List.set_cons_succ]))
    refine seq_read (fun w' => ∀ j v, (cellsOf k0)[j]? = some v → w'.cell? ⟨g3, 64 + j, none⟩ = some v) (fun w' e => R2.out w' ((Ext.refl _).drew.trans e)) _ (v := .agg (cellsOf k0).toArray) rfl rfl (by rfl) (fun w' hF => exec_load_mid rfl rfl hF rfl rfl (by rw [C0]; rfl)) ?_
    simp only [Act.put, List.setIfInBounds_toArray, List.set_cons_zero, List.set_cons_succ]
    repeat (first | (refine seq_read (fun _ => True) (fun _ _ => trivial) _ (v := ?_) rfl rfl (by rfl) ?_ ?_; rotate_left; (· intro w' hF; go_simp; (try with_reducible rfl)); simp only [Act.put, List.setIfInBounds_toArray, List.set_cons_zero, List.set_cons_succ]) | (refine seq_skip _ rfl rfl (by rfl) ?_; simp only [Act.put, List.setIfInBounds_toArray, List.set_cons_zero, List.set_cons_succ]))
    refine seq_read (fun w' => w'.heap[g]? = some (.cells (cellsOf k0).toArray 25 (0, 0))) (fun w' e => (kx.out.ext ((Ext.refl _).drew.trans e)).1) _ (v := .agg (cellsOf k0).toArray) rfl rfl (by rfl) (fun w' hF => exec_load_row rfl rfl hF rfl rfl (by rw [HM]; rfl)) ?_
    simp only [Act.put, List.setIfInBounds_toArray, List.set_cons_zero, List.set_cons_succ]
    repeat (first | (refine seq_read (fun _ => True) (fun _ _ => trivial) _ (v := ?_) rfl rfl (by rfl) ?_ ?_; rotate_left; (· intro w' hF; go_simp; (try with_reducible rfl)); simp only [Act.put, List.setIfInBounds_toArray, List.set_cons_zero, List.set_cons_succ]) | (refine seq_skip _ rfl rfl (by rfl) ?_; simp only [Act.put, List.setIfInBounds_toArray, List.set_cons_zero, List.set_cons_succ]))
    refine seq_read (fun _ => True) (fun _ _ => trivial) _ (v := .bool true) rfl rfl (by rfl) (fun w' _ => exec_eql_keyB (decide_eq_true rfl) ka ka rfl rfl rfl) ?_
    simp only [Act.put, List.setIfInBounds_toArray, List.set_cons_zero, List.set_cons_succ]
    repeat (first | (refine seq_read (fun _ => True) (fun _ _ => trivial) _ (v := ?_) rfl rfl (by rfl) ?_ ?_; rotate_left; (· intro w' hF; go_simp; (try with_reducible rfl)); simp only [Act.put, List.setIfInBounds_toArray, List.set_cons_zero, List.set_cons_succ]) | (refine seq_skip _ rfl rfl (by rfl) ?_; simp only [Act.put, List.setIfInBounds_toArray, List.set_cons_zero, List.set_cons_succ]))
    refine seq_read (fun w' => ∀ j v, (cellsOf k1)[j]? = some v → w'.cell? ⟨g3, 32 + j, none⟩ = some v) (fun w' e => R1.out w' ((Ext.refl _).drew.trans e)) _ (v := .agg (cellsOf k1).toArray) rfl rfl (by rfl) (fun w' hF => exec_load_mid rfl rfl hF rfl rfl (by rw [C1]; rfl)) ?_
    simp only [Act.put, List.setIfInBounds_toArray, List.set_cons_zero, List.set_cons_succ]
    repeat (first | (refine seq_read (fun _ => True) (fun _ _ => trivial) _ (v := ?_) rfl rfl (by rfl) ?_ ?_; rotate_left; (· intro w' hF; go_simp; (try with_reducible rfl)); simp only [Act.put, List.setIfInBounds_toArray, List.set_cons_zero, List.set_cons_succ]) | (refine seq_skip _ rfl rfl (by rfl) ?_; simp only [Act.put, List.setIfInBounds_toArray, List.set_cons_zero, List.set_cons_succ]))
    refine seq_read (fun w' => ∀ j v, (cellsOf k1)[j]? = some v → w'.cell? ⟨g4, 0 + j, none⟩ = some v) (fun w' e => R3.out w' ((Ext.refl _).drew.trans e)) _ (v := .agg (cellsOf k1).toArray) rfl rfl (by rfl) (fun w' hF => exec_load_mid rfl rfl hF rfl rfl (by rw [C1]; rfl)) ?_
    simp only [Act.put, List.setIfInBounds_toArray, List.set_cons_zero, List.set_cons_succ]
    repeat (first | (refine seq_read (fun _ => True) (fun _ _ => trivial) _ (v := ?_) rfl rfl (by rfl) ?_ ?_; rotate_left; (· intro w' hF; go_simp; (try with_reducible rfl)); simp only [Act.put, List.setIfInBounds_toArray, List.set_cons_zero, List.set_cons_succ]) | (refine seq_skip _ rfl rfl (by rfl) ?_; simp only [Act.put, List.setIfInBounds_toArray, List.set_cons_zero, List.set_cons_succ]))
    refine seq_read (fun _ => True) (fun _ _ => trivial) _ (v := .bool true) rfl rfl (by rfl) (fun w' _ => exec_eql_keyB (decide_eq_true rfl) kb kb rfl rfl rfl) ?_
    simp only [Act.put, List.setIfInBounds_toArray, List.set_cons_zero, List.set_cons_succ]
    repeat (first | (refine seq_read (fun _ => True) (fun _ _ => trivial) _ (v := ?_) rfl rfl (by rfl) ?_ ?_; rotate_left; (· intro w' hF; go_simp; (try with_reducible rfl)); simp only [Act.put, List.setIfInBounds_toArray, List.set_cons_zero, List.set_cons_succ]) | (refine seq_skip _ rfl rfl (by rfl) ?_; simp only [Act.put, List.setIfInBounds_toArray, List.set_cons_zero, List.set_cons_succ]))
    refine seq_done ?_
    go_wp2_with fail
    go_ret
    exact ⟨rfl, E2.out.drew⟩

theorem kdfFirst_calls {ks : List UInt8} {sa sb : ByteArray} {w : World} (hk : ks.length = 32) {tg : TypeId × Nat × Nat} (hG : Gl w tg) :
    Calls Tryd.prog 8 #[.agg (cellsOf ks).toArray, .string sa, .string sb] w fun e w' => e = .returned (.bool true) ∧ Ext w w' := by
  rw [← strL_eta sa, ← strL_eta sb]
  by_cases hq : 300 < sa.data.toList.length ∨ 300 < sb.data.toList.length
  · exact kdfFirst_out hk hq hG
  · exact kdfFirst_main hk (by omega) (by omega) hG
end Go.Proofs.YtdiigbknfjceoaaDoor
