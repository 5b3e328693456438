/-
  ChachaTwice: turned twice bytes are as they were.
-/
import Derived.Test.YtafflhbogbddjaaJob
namespace Go.Proofs.Ytafflhbogbddjaa
open Go.ChangeShapes Go.WideShapes Go.ChangeAt Go.RowKit Go.Deep

theorem twice_out {A : Option Addr} {m c : Nat} {bs : List UInt8} {J : Array Value} {w : World} (h : Bs w A m c bs) (hq : 1000 < m) :
    Calls Try.prog 5 #[.agg J, .slice A m c] w fun e w' => e = .returned (.bool true) ∧ Ext w w' := by
  have h1 := h.le
  have h2 := h.cap
  have q1' : decide ((1000 : Int) < (m : Int)) = true := by simp; omega
  go_enter Try.func5, Try.ntmps5
  go_wp2_with fail
  refine awake_calls.mono ?_
  rintro e w1 ⟨rfl, e1⟩
  go_wp2_with fail
  go_ret
  exact ⟨rfl, ((Ext.refl w).alloc _).trans e1⟩

set_option maxRecDepth 100000 in
set_option maxHeartbeats 2000000 in
theorem twice_main {A : Option Addr} {m c n : Nat} {ks ns bs : List UInt8} {w : World} (hk : ks.length = 32) (hn : ns.length = 12) (hN : n < 4294967296) (h : Bs w A m c bs) (hq : m ≤ 1000) :
    Calls Try.prog 5 #[.agg (jobL ks ns n).toArray, .slice A m c] w fun e w' => e = .returned (.bool true) ∧ Ext w w' := by
  have h1 := h.le
  have h2 := h.cap
  have hl := h.len
  have q1' : decide ((1000 : Int) < (m : Int)) = false := by simp; omega
  have JB0 := Lib.hid (Jb.boxed w hk hn hN)
  have KL : (cellsOf ks).length = 32 := by rw [cellsOf_len, hk]
  have NL : (cellsOf ns).length = 12 := by rw [cellsOf_len, hn]
  have TURN : Hid (∀ (W : World) A' L' c' ys, Bs W A' L' c' ys → L' ≤ 1000 → Calls Try.prog 11 #[.agg (cellsOf ks).toArray, .agg (cellsOf ns).toArray, .int .u32 (n : Int), .slice A' L' c'] W (RetBs (turnL ks ns n ys) W)) := fun W A' L' c' ys b hle => turn_calls hk hn hN b (by omega)
  have TL := turnL_len ks ns n bs
  have TT := Lib.hid (turn_twice (ks := ks) (ns := ns) (n := n) (bs := bs))
  generalize (jobL ks ns n).toArray = J at *
  have hB := Lib.hid h
  clear h
  go_enter Try.func5, Try.ntmps5
  go_wp2_with fail
  refine awake_calls.mono ?_
  rintro e w1 ⟨rfl, e1⟩
  have E1 : Hid (Ext w w1) := ((Ext.refl w).alloc _).trans e1
  have JB1 := Lib.hid (JB0.out.ext e1)
  clear JB0 e1
  go_upto_region 5 with (at_builtin; (with_reducible refine wpList_append_bs rfl (B := w1.heap.size) (s := .tmp 13) (x := .tmp 14) rfl rfl rfl (Own.empty w1 _ (Nat.le_refl _)) (hB.out.ext (E1.out.alloc _)) (by omega) (by simp) ?_); intro A2 c2 w2 o2 g2 b2; simp only [Nat.zero_add, List.nil_append] at o2)
  have E2 : Hid (Ext w1 w2) := Below.trans ((Ext.refl w1).alloc _) b2
  have B2 := Lib.hid o2.bs
  have JB2 := Lib.hid (JB1.out.ext E2.out)
  clear g2 b2 o2 JB1
  have jn := JB2.out.num
  go_wp2_with (first
    | (refine wpList_exec rfl (exec_load_mid (ys := cellsOf ks) (g := w.heap.size) (off := 0) rfl rfl JB2.out.key rfl rfl (by rw [KL]; rfl)) ?_; simp only [Act.put, List.setIfInBounds_toArray, List.set_cons_zero, List.set_cons_succ])
    | (refine wpList_exec rfl (exec_load_mid (ys := cellsOf ns) (g := w.heap.size) (off := 32) rfl rfl JB2.out.non rfl rfl (by rw [NL]; rfl)) ?_; simp only [Act.put, List.setIfInBounds_toArray, List.set_cons_zero, List.set_cons_succ]))
  refine (TURN.out _ _ _ _ _ B2.out hq).mono ?_
  rintro e w3 ⟨A3, n3, c3, rfl, b3, e3⟩
  have n3m : n3 = m := by rw [← b3.len, TL, hl]
  subst n3m
  have E3 : Hid (Ext w w3) := E1.out.trans (E2.out.trans e3)
  have JB3 := Lib.hid (JB2.out.ext e3)
  have C3 := Lib.hid (B2.out.ext e3)
  have B3 := Lib.hid b3
  have H3 := Lib.hid (hB.out.ext E3.out)
  clear JB2 B2 b3 e3 E1 E2 jn
  go_wp2_with fail
  refine wp_region_seq (R := Ext) Ext.refl (fun _ _ _ => Ext.trans) [0, 1, 2, 3, 4, 5, 6, 7, 8, 9, 10, 11, 12, 13, 14, 15, 16, 17, 18, 19, 20, 21, 22, 25, 26, 23, 24, 27, 28, 29] [23] [(0, 25, 64), (1, 26, 33554432), (2, 27, 67109120), (6, 28, 201326592), (2, 29, 67108868), (18, 30, 603979776), (42, 31, 1409286144), (66, 32, 2214592512), (130, 33, 4294967296), (256, 34, 8589934720), (768, 35, 25769803776), (256, 36, 8589934596), (2304, 37, 77309411328), (5376, 38, 180388626432), (8448, 39, 283467841536), (16640, 40, 549755813888), (32768, 41, 1099511627784), (98304, 42, 3298534883328), (32768, 43, 1099511627784), (294912, 44, 9895604649984), (32768, 45, 1099511627784), (1081344, 46, 36283883716608), (32768, 47, 1099511628032), (6979584, 48, 234195976716288), (8421376, 49, 282574488338432), (32768, 50, 1099511627780), (33587200, 51, 1126999418470400), (83918848, 52, 2815849278734336), (134250496, 53, 4504699138998272), (536870911, 5, 9007199254740992)] (by kernel_rfl) (by kernel_rfl) (by kernel_rfl) rfl (by kernel_rfl) (by kernel_rfl) (fun _ _ d _ _ h => by cases d <;> exact h) ?_
  iterate 17 (first | (refine seq_read _ (fun w' e => And.intro (conv_bs (C3.out.ext ((Ext.refl _).drew.trans e))) (conv_bs (H3.out.ext ((Ext.refl _).drew.trans e)))) _ (v := ?_) rfl rfl (by rfl) ?_ ?_; rotate_left; (· intro w' hF; go_simp; (try with_reducible rfl)); simp only [Act.put, List.setIfInBounds_toArray, List.set_cons_zero, List.set_cons_succ]) | (refine seq_skip _ rfl rfl (by rfl) ?_; simp only [Act.put, List.setIfInBounds_toArray, List.set_cons_zero, List.set_cons_succ]))
  refine seq_read (fun w' => ∀ j v, (cellsOf ks)[j]? = some v → w'.cell? ⟨w.heap.size, 0 + j, none⟩ = some v) (fun w' e => (JB3.out.ext ((Ext.refl _).drew.trans e)).key) _ (v := .agg (cellsOf ks).toArray) rfl rfl (by rfl) (fun w' hF => exec_load_mid rfl rfl hF rfl rfl (by rw [KL]; rfl)) ?_
  simp only [Act.put, List.setIfInBounds_toArray, List.set_cons_zero, List.set_cons_succ]
  iterate 1 (first | (refine seq_read (fun _ => True) (fun _ _ => trivial) _ (v := ?_) rfl rfl (by rfl) ?_ ?_; rotate_left; (· intro w' hF; go_simp; (try with_reducible rfl)); simp only [Act.put, List.setIfInBounds_toArray, List.set_cons_zero, List.set_cons_succ]) | (refine seq_skip _ rfl rfl (by rfl) ?_; simp only [Act.put, List.setIfInBounds_toArray, List.set_cons_zero, List.set_cons_succ]))
  refine seq_read (fun w' => ∀ j v, (cellsOf ns)[j]? = some v → w'.cell? ⟨w.heap.size, 32 + j, none⟩ = some v) (fun w' e => (JB3.out.ext ((Ext.refl _).drew.trans e)).non) _ (v := .agg (cellsOf ns).toArray) rfl rfl (by rfl) (fun w' hF => exec_load_mid rfl rfl hF rfl rfl (by rw [NL]; rfl)) ?_
  simp only [Act.put, List.setIfInBounds_toArray, List.set_cons_zero, List.set_cons_succ]
  iterate 5 (first | (refine seq_read _ (fun w' e => And.intro (JB3.out.ext ((Ext.refl _).drew.trans e)).num (conv_bs (H3.out.ext ((Ext.refl _).drew.trans e)))) _ (v := ?_) rfl rfl (by rfl) ?_ ?_; rotate_left; (· intro w' hF; go_simp; (try with_reducible rfl)); simp only [Act.put, List.setIfInBounds_toArray, List.set_cons_zero, List.set_cons_succ]) | (refine seq_skip _ rfl rfl (by rfl) ?_; simp only [Act.put, List.setIfInBounds_toArray, List.set_cons_zero, List.set_cons_succ]))
  refine seq_do _ rfl rfl (by rfl) (fun K hK => ?_)
  go_simp
  refine (TURN.out _ _ _ _ _ (B3.out.ext (Ext.refl _).drew) hq).mono ?_
  rintro e w4 ⟨A4, n4, c4, rfl, b4, e4⟩
  rw [TT.out] at b4
  refine hK.out _ _ e4 ?_
  clear hK K
  try simp only [Act.put, List.setIfInBounds_toArray, List.set_cons_zero, List.set_cons_succ]
  repeat (first | (refine seq_read _ (fun w' e => conv_bs (b4.ext e)) _ (v := ?_) rfl rfl (by rfl) ?_ ?_; rotate_left; (· intro w' hF; go_simp; (try with_reducible rfl)); simp only [Act.put, List.setIfInBounds_toArray, List.set_cons_zero, List.set_cons_succ]) | (refine seq_skip _ rfl rfl (by rfl) ?_; simp only [Act.put, List.setIfInBounds_toArray, List.set_cons_zero, List.set_cons_succ]))
  refine seq_done ?_
  go_wp2_with fail
  go_ret
  exact ⟨rfl, E3.out.trans ((Ext.refl _).drew.trans e4)⟩

theorem chachaTwice_calls {A : Option Addr} {m c n : Nat} {ks ns bs : List UInt8} {w : World} (hk : ks.length = 32) (hn : ns.length = 12) (hN : n < 4294967296) (h : Bs w A m c bs) :
    Calls Try.prog 5 #[.agg (jobL ks ns n).toArray, .slice A m c] w fun e w' => e = .returned (.bool true) ∧ Ext w w' := by
  by_cases hq : m ≤ 1000
  · exact twice_main hk hn hN h hq
  · exact twice_out h (by omega)
end Go.Proofs.Ytafflhbogbddjaa
