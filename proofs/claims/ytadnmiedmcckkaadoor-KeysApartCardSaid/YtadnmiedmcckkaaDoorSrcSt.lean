import Derived.Test.YtadnmiedmcckkaaDoorPkJ
import Derived.Test.YtadnmiedmcckkaaDoorFree
/-
  keys.Source: New, Key, Many.
-/
namespace Go.Proofs.YtadnmiedmcckkaaDoor
open Go.ChangeShapes Go.WideShapes Go.ChangeAt Go.RowKit Go.Deep
set_option maxRecDepth 100000

theorem grown_row {a w : World} {g r : Nat} {C : Array Value} (h : a.grownBy w (some g)) (hr : a.heap.size ≤ r) : a.grownBy (w.setRow r C) (some g) :=
  ⟨h.os, h.tape, h.output, Nat.le_trans h.size (by simp), fun i hi hne => (setRow_other _ _ _ _ (by omega)).trans (h.block i hi hne)⟩
theorem grown_ext {a b c : World} {g : Nat} (h : a.grownBy b (some g)) (e : Ext b c) : a.grownBy c (some g) := grown_trans' h (grown_of_ext e)
theorem Sb.row {w : World} {g n c m r : Nat} {A : Option Addr} {d s : Int} {rt : List UInt8} {C : Array Value} (h : Sb w g A n c d s rt m) (hne : g ≠ r) : Sb (w.setRow r C) g A n c d s rt m := ⟨(setRow_other _ _ _ _ hne).trans h.1, h.2⟩
theorem Sb.other {w w' : World} {g h' n c m : Nat} {A : Option Addr} {d s : Int} {rt : List UInt8} (h : Sb w g A n c d s rt m) (k : w.grownBy w' (some h')) (hne : g ≠ h') : Sb w' g A n c d s rt m := ⟨grown_keep k hne h.1, h.2⟩

/-- The k-th key of a seed. -/
def srcK (xs : List UInt8) (k : Nat) : List UInt8 := macL (macL [] xs) (lowL k 8).reverse
theorem srcK_len (xs : List UInt8) (k : Nat) : (srcK xs k).length = 32 := macL_len _ _
/-- Block g is a source of a seed, that told k keys; its own memory lies from lo on. -/
def SrcSt (w : World) (lo g : Nat) (xs : List UInt8) (k : Nat) : Prop :=
  (1 < lo ∧ lo ≤ g) ∧ ((∃ A n c rt, Sb w g A n c 0 0 rt k ∧ Bs w A n c xs ∧ ∀ a, A = some a → lo ≤ a.block ∧ a.block < g) ∨ Sb w g none 0 0 1 0 (macL [] xs) k)
theorem SrcSt.lt {w : World} {lo g k : Nat} {xs : List UInt8} (h : SrcSt w lo g xs k) : g < w.heap.size := by
  rcases h.2 with ⟨A, n, c, rt, h, _, _⟩ | h <;> exact h.lt
theorem SrcSt.ext {w w' : World} {lo g k : Nat} {xs : List UInt8} (h : SrcSt w lo g xs k) (e : Ext w w') : SrcSt w' lo g xs k := by
  refine ⟨h.1, ?_⟩
  rcases h.2 with ⟨A, n, c, rt, h, hb, hA⟩ | h
  · exact .inl ⟨A, n, c, rt, h.ext e, hb.ext e, hA⟩
  · exact .inr (h.ext e)
theorem SrcSt.other {w w' : World} {lo g k h' : Nat} {xs : List UInt8} (h : SrcSt w lo g xs k) (e : w.grownBy w' (some h')) (hne : h' < lo ∨ g < h') : SrcSt w' lo g xs k := by
  refine ⟨h.1, ?_⟩
  have := h.1.2
  rcases h.2 with ⟨A, n, c, rt, h, hb, hA⟩ | h
  · exact .inl ⟨A, n, c, rt, h.other e (by omega), hb.grown e (fun a q => by have := hA a q; omega), hA⟩
  · exact .inr (h.other e (by omega))
theorem SrcSt.row {w : World} {lo g k r : Nat} {C : Array Value} {xs : List UInt8} (h : SrcSt w lo g xs k) (hr : g < r) : SrcSt (w.setRow r C) lo g xs k :=
  h.other ⟨rfl, rfl, rfl, by simp, fun i _ hne => setRow_other _ _ _ _ (fun q => hne (by rw [q]))⟩ (.inr hr)

theorem src_built {A : Option Addr} {n c : Nat} : Tryd.prog.built 84 [(0, .slice A n c)] = some (srcC A n c 0 0 (List.replicate 32 0) 0).toArray := by kernel_rfl

set_option maxHeartbeats 2000000 in
theorem new_calls {w : World} {A : Option Addr} {n c : Nat} {xs : List UInt8} (h : Bs w A n c xs) (hn : n ≤ 140737488355328) {tg : TypeId × Nat × Nat} (hG : Gl w tg) :
    Calls Tryd.prog 25 #[.slice A n c] w fun e w' => ∃ g, e = .returned (.pointer (some ⟨g, 0, none⟩)) ∧ SrcSt w' w.heap.size g xs 0 ∧ Ext w w' := by
  have o0 := Lib.hid (Own.nil w.heap.size w)
  have lg := Lib.hid hG.lt
  clear hG
  replace h := Lib.hid h
  go_enter Tryd.func25, Tryd.ntmps25
  go_wp2_with (first
    | (at_builtin; (with_reducible refine wpList_append_bs rfl (B := w.heap.size) (s := .const (.slice none 0 0)) (x := .tmp 3) rfl rfl rfl o0.out h.out (by omega) (Nat.le_refl _) ?_); intro A1 c1' w1 o1 g1 b1; rw [Nat.zero_add] at *; replace o1 := Lib.hid o1; clear g1; replace b1 : Hid (Ext w w1) := b1; simp only [Act.put, List.setIfInBounds_toArray, List.set_cons_zero, List.set_cons_succ])
    | (refine wpList_build_as rfl _ _ rfl (srcC A1 n c1' 0 0 (List.replicate 32 0) 0).toArray (by simp only [List.map_toArray, List.map_cons, List.map_nil]; exact src_built) ?_; simp only [Act.put, List.setIfInBounds_toArray, List.set_cons_zero, List.set_cons_succ]))
  go_ret
  refine ⟨_, rfl, ⟨⟨lg.out, b1.out.size⟩, .inl ⟨A1, n, c1', List.replicate 32 0, ⟨heap_alloc_new _ _, rfl⟩, o1.out.bs.ext ((Ext.refl _).alloc _), fun a q => ?_⟩⟩, b1.out.alloc _⟩
  subst q
  have ho := o1.out
  rcases ho.2 with ⟨hv, _⟩ | ⟨g, cap, cur, hv, hge, hg, _⟩
  · cases hv
  · injection hv with h1 h2 h3
    injection h1 with h1
    subst h1
    exact ⟨hge, heap_lt hg⟩

theorem hid_or {p : Prop} (h : p) : Hid p := h
theorem once_calls {w : World} {lo g k : Nat} {xs : List UInt8} (h : SrcSt w lo g xs k) {tg : TypeId × Nat × Nat} (hG : Gl w tg) :
    Calls Tryd.prog 52 #[.pointer (some ⟨g, 1, none⟩), .func (.func 53) #[.pointer (some ⟨g, 0, none⟩)] #[]] w fun e w' => e = .returned (.tuple #[]) ∧ w.grownBy w' (some g) ∧ Sb w' g none 0 0 1 0 (macL [] xs) k := by
  obtain ⟨⟨h1, h2⟩, h3⟩ := h
  rcases h3 with ⟨A, n, c, rt, hs, hb, hA⟩ | hs
  · exact do_first hs hb (fun a q => by have := hA a q; omega) hG fun W e => (e.block _ hG.lt (fun q => by have := Option.some.inj q; omega)).trans hG
  · refine (do_done hs).mono ?_
    rintro e w' ⟨rfl, rfl⟩
    exact ⟨rfl, World.grownBy.refl _ _, hs⟩

set_option maxHeartbeats 2000000 in
theorem many_calls {w : World} {lo g k : Nat} {xs : List UInt8} (h : SrcSt w lo g xs k) :
    Calls Tryd.prog 29 #[.pointer (some ⟨g, 0, none⟩)] w fun e w' => e = .returned (.int .i64 (k : Int)) ∧ Ext w w' := by
  have c := show w.cell? ⟨g, 36, none⟩ = some (.int .i64 (k : Int)) by rcases h.2 with ⟨A, n, c, rt, hs, _, _⟩ | hs <;> exact hs.cell36
  clear h
  go_enter Tryd.func29, Tryd.ntmps29
  go_wp2_with fail
  go_ret
  exact ⟨rfl, Ext.refl _⟩

set_option maxHeartbeats 4000000 in
theorem skey_calls {w : World} {lo g k : Nat} {xs : List UInt8} (h : SrcSt w lo g xs k) (hk : k < 1000000) {tg : TypeId × Nat × Nat} (hG : Gl w tg) :
    Calls Tryd.prog 28 #[.pointer (some ⟨g, 0, none⟩)] w fun e w' => e = .returned (.agg (cellsOf (srcK xs k)).toArray) ∧ w.grownBy w' (some g) ∧ SrcSt w' lo g xs (k + 1) := by
  have hal : ∀ w, (zeroValue 23).run Tryd.prog w = .ok (.agg (cellsOf (List.replicate 32 0)).toArray) w := fun w => by rw [zeros32_cells]; exact key_alloc w
  have L_zk : (List.replicate 32 (0 : UInt8)).length = 32 := rfl
  generalize List.replicate 32 (0 : UInt8) = zk at *
  have S_zk : (cellsOf zk).toArray.size = 32 := by simp [cellsOf_len, L_zk]
  have hmf : ∀ (fn : Fn) (first cap : Array Value) (w : World), (Instr.makeFunc fn first cap).run Tryd.prog w = .ok (.func fn first cap) w := fun _ _ _ _ => rfl
  have lo2 := Lib.hid h.1
  have glt : g < w.heap.size := h.lt
  have ON := Lib.hid (once_calls (h.ext ((Ext.refl w).alloc (Obj.cells (cellsOf zk).toArray 23))) (hG.ext ((Ext.refl w).alloc _)))
  have gl0 : Hid (∀ W, (w.alloc (Obj.cells (cellsOf zk).toArray 23)).grownBy W (some g) → Gl W tg ∧ Ky W w.heap.size zk ∧ w.grownBy W (some g)) := fun W e =>
    ⟨(e.block _ (by rw [size_alloc]; exact Nat.lt_succ_of_lt hG.lt) (fun q => by have := Option.some.inj q; have := h.1; omega)).trans (hG.ext ((Ext.refl w).alloc _)),
     ⟨grown_keep e (by omega) (heap_alloc_new _ _), L_zk⟩, grown_trans' (grown_of_ext ((Ext.refl w).alloc _)) e⟩
  clear h hG
  have DR : Hid (∀ (W : World) (A : Option Addr) (m d : Nat), Gl W tg → Bs W A m d (lowL k 8).reverse → Calls Tryd.prog 54 #[.agg (cellsOf (macL [] xs)).toArray, .slice A m d] W fun e w' => e = .returned (.agg (cellsOf (srcK xs k)).toArray) ∧ Ext W w') := fun W A m d hg hb => draw_calls (macL_len _ _) hb hg
  have HI : Hid (∀ W, Calls Tryd.prog 55 #[.int .u64 (k : Int), .int .i64 8] W (RetBs (lowL k 8).reverse W)) := fun W => high_calls (by omega) (by omega) (by omega) (Nat.le_refl _) (by decide)
  have DK := Lib.hid (srcK_len xs k)
  have FIN : Hid (∀ W, Sb W g none 0 0 1 0 (macL [] xs) (k + 1) → SrcSt W lo g xs (k + 1)) := fun W h => ⟨lo2.out, .inr h⟩
  have L_rt := macL_len [] xs
  generalize macL [] xs = rt at *
  have L_dk := DK.out
  generalize srcK xs k = dk at *
  have S_rt : (cellsOf rt).length = 32 := by simp [cellsOf_len, L_rt]
  have S_dk : (cellsOf dk).toArray.size = 32 := by simp [cellsOf_len, L_dk]
  have O_dk := cellsOf_one dk
  generalize hhs : (lowL k 8).reverse = hs at *
  clear hhs DK lo2
  have cv : IntKind.u64.wrap (k : Int) = (k : Int) := by simp [IntKind.wrap, IntKind.bits, IntKind.signed]; omega
  have ad : IntKind.i64.wrap ((k : Int) + 1) = (k : Int) + 1 := IntWalk.i64_in _ (by omega)
  go_enter Tryd.func28, Tryd.ntmps28
  go_wp2_with fail
  refine ON.out.mono ?_
  rintro e w1 ⟨rfl, g1, h1⟩
  obtain ⟨r, hr⟩ : ∃ r, r = w.heap.size := ⟨_, rfl⟩
  have P1 := gl0.out _ g1
  rw [← hr] at P1 ⊢
  replace hr := Lib.hid hr
  clear gl0 ON g1
  replace P1 := Lib.hid P1
  replace h1 := Lib.hid h1
  have Q1 : Hid (∀ s, Ext w1 s → Sb s g none 0 0 1 0 rt k ∧ Gl s tg) := fun s e => ⟨h1.out.ext e, P1.out.1.ext e⟩
  go_upto_region 2 with fail
  refine wp_region_free (R := Ext) Ext.refl (fun _ _ _ => Ext.trans) [0, 1, 2, 3, 4, 5, 6, 7, 8, 9, 10, 11] [12] [0, 1, 3, 7, 0, 16, 48, 112, 240, 496, 1023, 0, 4095] [true, true, true, true, true, true, true, true, true, true, true, true, false] [(0, 11, 2), (1, 12, 2048), (2, 13, 4096), (4, 14, 8192), (0, 15, 2), (16, 16, 32768), (32, 17, 65536), (64, 18, 131072), (128, 19, 262144), (256, 20, 524288), (520, 21, 1064960), (0, 4, 0), (4095, 0, 2097168)] (by kernel_rfl) (by kernel_rfl) (by kernel_rfl) (by kernel_rfl) ?_
  refine free_det (fun _ => Ext.refl _) _ rfl (v := ?_) (d := 11) rfl rfl ?_ ?_
  rotate_left
  · intro a_ w_ hev hR hk
    have e0 : a_.eval (.tmp 0) = _ := hk 0 rfl
    clear hk
    generalize a_.eval = ev at *
    obtain ⟨hev1, hev2, hev3⟩ := hev
    go_simp
    (try with_reducible rfl)
  refine free_det (fun _ => Ext.refl _) _ rfl (v := ?_) (d := 12) rfl rfl ?_ ?_
  rotate_left
  · intro a_ w_ hev hR hk
    have e10 : a_.eval (.tmp 10) = _ := hk 10 rfl
    clear hk
    generalize a_.eval = ev at *
    obtain ⟨hev1, hev2, hev3⟩ := hev
    go_simp
    (try with_reducible rfl)
  refine free_det (fun _ => Ext.refl _) _ rfl (v := ?_) (d := 13) rfl rfl ?_ ?_
  rotate_left
  · intro a_ w_ hev hR hk
    have e11 : a_.eval (.tmp 11) = _ := hk 11 rfl
    clear hk
    generalize a_.eval = ev at *
    obtain ⟨hev1, hev2, hev3⟩ := hev
    go_simp
    (try with_reducible rfl)
  refine free_det (fun _ => Ext.refl _) _ rfl (v := .agg (cellsOf rt).toArray) (d := 14) rfl rfl ?_ ?_
  · intro a_ w_ hev hR hk
    have e12 : a_.eval (.tmp 12) = _ := hk 12 rfl
    exact (exec_load_mid rfl e12 (Q1.out w_ (Ext.trans (Ext.refl _).drew hR)).1.at4 rfl rfl (by rw [S_rt]; rfl))
  refine free_det (fun _ => Ext.refl _) _ rfl (v := ?_) (d := 15) rfl rfl ?_ ?_
  rotate_left
  · intro a_ w_ hev hR hk
    have e0 : a_.eval (.tmp 0) = _ := hk 0 rfl
    clear hk
    generalize a_.eval = ev at *
    obtain ⟨hev1, hev2, hev3⟩ := hev
    go_simp
    (try with_reducible rfl)
  refine free_det (fun _ => Ext.refl _) _ rfl (v := ?_) (d := 16) rfl rfl ?_ ?_
  rotate_left
  · intro a_ w_ hev hR hk
    have e14 : a_.eval (.tmp 14) = _ := hk 14 rfl
    clear hk
    generalize a_.eval = ev at *
    obtain ⟨hev1, hev2, hev3⟩ := hev
    go_simp
    (try with_reducible rfl)
  refine free_det (fun _ => Ext.refl _) _ rfl (v := ?_) (d := 17) rfl rfl ?_ ?_
  rotate_left
  · intro a_ w_ hev hR hk
    have e15 : a_.eval (.tmp 15) = _ := hk 15 rfl
    clear hk
    generalize a_.eval = ev at *
    obtain ⟨hev1, hev2, hev3⟩ := hev
    go_simp
    (try with_reducible rfl)
  refine free_det (fun _ => Ext.refl _) _ rfl (v := ?_) (d := 18) rfl rfl ?_ ?_
  rotate_left
  · intro a_ w_ hev hR hk
    have e16 : a_.eval (.tmp 16) = _ := hk 16 rfl
    clear hk
    have hF := ((Q1.out w_ (Ext.trans (Ext.refl _).drew hR)).1.cell36)
    generalize a_.eval = ev at *
    obtain ⟨hev1, hev2, hev3⟩ := hev
    go_simp
    (try with_reducible rfl)
  refine free_det (fun _ => Ext.refl _) _ rfl (v := ?_) (d := 19) rfl rfl ?_ ?_
  rotate_left
  · intro a_ w_ hev hR hk
    have e17 : a_.eval (.tmp 17) = _ := hk 17 rfl
    clear hk
    generalize a_.eval = ev at *
    obtain ⟨hev1, hev2, hev3⟩ := hev
    go_simp
    (try with_reducible rfl)
  refine free_step _ rfl (fun u w_ => ∃ A n c, u = .slice A n c ∧ Bs w_ A n c (hs)) (d := 20) rfl (fun _ _ _ h e => by obtain ⟨A, n, c, h1, h2⟩ := h; exact ⟨A, n, c, h1, h2.ext e⟩) rfl ?_ ?_
  · intro a_ w_ hev hR hk K1 hK1
    have e18 : a_.eval (.tmp 18) = _ := hk 18 rfl
    clear hk
    have f18 := ev_get.trans e18
    go_simp
    refine (HI.out _).mono ?_
    rintro e_ w2_ ⟨A_, n_, c_, rfl, b_, x_⟩
    exact hK1.out _ _ x_ ⟨A_, n_, c_, rfl, b_⟩
  refine free_step _ rfl (fun u _ => u = .agg (cellsOf dk).toArray) (d := 21) rfl (fun _ _ _ h _ => h) rfl ?_ ?_
  · intro a_ w_ hev hR hk K1 hK1
    have e13 : a_.eval (.tmp 13) = _ := hk 13 rfl
    obtain ⟨A_19, N_19, C_19, e19, b19⟩ : ∃ A n c, a_.eval (.tmp 19) = .slice A n c ∧ Bs w_ A n c _ := hk 19 rfl
    clear hk
    have f13 := ev_get.trans e13
    have f19 := ev_get.trans e19
    go_simp
    refine (DR.out _ _ _ _ (Q1.out w_ (Ext.trans (Ext.refl _).drew hR)).2 b19).mono ?_
    rintro e_ w2_ ⟨rfl, x_⟩
    exact hK1.out _ _ x_ rfl
  refine free_new _ rfl (fun u w_ => ∃ g, u = .pointer (some ⟨g, 0, none⟩) ∧ w1.drew.heap.size ≤ g ∧ w_.heap[g]? = some (.cells (cellsOf zk).toArray 23 (0, 0))) (d := 4) rfl (fun _ _ _ h e => by obtain ⟨g, h1, h2, h3⟩ := h; exact ⟨g, h1, h2, (e.block g (heap_lt h3)).trans h3⟩) rfl (by decide) (fun _ _ h => by obtain ⟨g, h1, h2, h3⟩ := h; subst h1; exact ⟨g, rfl, heap_lt h3⟩) ?_ ?_
  · intro a_ w_ hev hR hk K1 hK1
    go_simp
    exact hK1.out _ _ ((Ext.refl _).alloc _) ⟨_, rfl, hR.size, heap_alloc_new _ _⟩ (fun _ q => by cases q; exact Nat.le_refl _)
  intro v_ w2 hR hV_ hN_
  obtain ⟨hv11, hv10, hv9, hv8, hv7, hv6, hv5, hv4, hv3, hv2, hv1, hv0, _⟩ := hV_
  replace hv0 : v_ 0 = _ := hv0
  replace hv1 : v_ 1 = _ := hv1
  replace hv2 : v_ 2 = _ := hv2
  replace hv3 : v_ 3 = _ := hv3
  replace hv4 : v_ 4 = _ := hv4
  replace hv5 : v_ 5 = _ := hv5
  replace hv6 : v_ 6 = _ := hv6
  replace hv7 : v_ 7 = _ := hv7
  replace hv8 : v_ 8 = _ := hv8
  skip
  replace hv10 : v_ 10 = _ := hv10
  skip
  dsimp only [putE, dOpt]
  obtain ⟨A_9, N_9, C_9, hv9, hb_9⟩ := hv9
  obtain ⟨g_11, hv11, gb_11, gc_11⟩ := hv11
  clear hN_
  rw [hv0, hv1, hv2, hv3, hv4, hv5, hv6, hv7, hv8, hv9, hv10, hv11]
  simp only [Act.put, List.setIfInBounds_toArray, List.set_cons_zero, List.set_cons_succ]
  clear hv0 hv1 hv2 hv3 hv4 hv5 hv6 hv7 hv8 hv9 hv10 hv11
  refine any_more (z := 12) _ rfl rfl (by kernel_rfl) ?_
  intro K1 hK1
  refine wp_store_row _ _ _ rfl g_11 (cellsOf dk).toArray rfl rfl 23 (cellsOf zk).toArray gc_11 (by rw [S_dk]; rfl) (by rw [S_dk, S_zk]) O_dk ?_
  refine hK1.out _ _ ?_
  clear hK1 K1
  refine any_nil (by kernel_rfl) ?_
  have E2 : Ext w1 (w2.setRow g_11 (cellsOf dk).toArray) := below_setRow ((Ext.refl w1).drew.trans hR) gb_11 _
  have hgr : g < g_11 := Nat.lt_of_lt_of_le h1.out.lt gb_11
  have hrr : r < g_11 := Nat.lt_of_lt_of_le (heap_lt P1.out.2.1.1) gb_11
  refine gen_q (fun W => Sb W g none 0 0 1 0 rt k ∧ Ky W r zk ∧ Ky W g_11 dk ∧ w.grownBy W (some g)) ⟨h1.out.ext E2, P1.out.2.1.ext E2, ⟨setRow_heap _ _ _ _ _ _ gc_11, L_dk⟩, grown_ext P1.out.2.2 E2⟩ ?_
  clear E2 hR gc_11 P1 Q1 h1 DR HI
  rintro w3 ⟨h3, z3, d3, g3⟩
  have c36 := h3.cell36
  have f36 := h3.frozen 36
  have h4 := Lib.hid (h3.set36 (k + 1))
  have gne : g ≠ g_11 := by omega
  have z4 : Hid (Ky (w3.setCell ⟨g, 36, none⟩ (.int .i64 ((k + 1 : Nat) : Int))) r zk ∧ Ky (w3.setCell ⟨g, 36, none⟩ (.int .i64 ((k + 1 : Nat) : Int))) g_11 dk ∧ w.grownBy (w3.setCell ⟨g, 36, none⟩ (.int .i64 ((k + 1 : Nat) : Int))) (some g)) :=
    ⟨⟨grown_keep grown_setCell (by have := hr.out; omega) z3.1, z3.2⟩, ⟨grown_keep grown_setCell (by omega) d3.1, d3.2⟩, grown_trans' g3 grown_setCell⟩
  have k1 : ((k + 1 : Nat) : Int) = (k : Int) + 1 := by omega
  clear h3 z3 d3 g3
  go_upto_region 4 with fail
  refine wp_gen (fun W => Sb W g none 0 0 1 0 rt (k + 1) ∧ Ky W r zk ∧ Ky W g_11 dk ∧ w.grownBy W (some g)) (by rw [← k1]; exact ⟨h4.out, z4.out⟩) ?_
  clear h4 z4 c36 f36 k1
  rintro w4 ⟨h4, z4, d4, g4⟩
  replace h4 := Lib.hid h4
  replace z4 := Lib.hid z4
  replace d4 := Lib.hid d4
  replace g4 := Lib.hid g4
  go_wp2_with (first
    | (refine wpList_load_row rfl 23 _ rfl g_11 rfl 23 (cellsOf dk).toArray (0, 0) _ d4.out.1 rfl rfl (by rw [S_dk]; rfl) ?_; simp only [Act.put, List.setIfInBounds_toArray, List.set_cons_zero, List.set_cons_succ])
    | (refine wpList_store_row rfl 23 _ _ rfl r (cellsOf dk).toArray rfl rfl 23 _ z4.out.1 (by rw [S_dk]; rfl) (by rw [S_dk, S_zk]) O_dk ?_; simp only [Act.put, List.setIfInBounds_toArray, List.set_cons_zero, List.set_cons_succ]))
  (try simp only [Exit.inBlock, Exit.then])
  refine bodyPost_ret (results_cell_row rfl _ _ r 23 (cellsOf dk).toArray (0, 0) _ rfl (setRow_heap _ _ _ _ _ _ z4.out.1) rfl rfl (by rw [S_dk]; rfl)) rfl ?_
  exact ⟨rfl, grown_row g4.out (by rw [hr.out]; exact Nat.le_refl _), FIN.out _ (h4.out.row (by have := hr.out; omega))⟩
end Go.Proofs.YtadnmiedmcckkaaDoor
