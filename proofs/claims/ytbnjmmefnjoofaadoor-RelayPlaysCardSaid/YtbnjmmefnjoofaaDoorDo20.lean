import Derived.Test.YtbnjmmefnjoofaaDoorPkB
/-
  palfreylaw20.do: both sides answer the same (written by gen20do.py).
-/
namespace Go.Proofs.YtbnjmmefnjoofaaDoor
open Go.ChangeShapes Go.WideShapes Go.ChangeAt Go.RowKit Go.Deep Go.Maps
set_option maxRecDepth 100000

/-- The program has gone on; the document's relay not yet. -/
def Md (w W1 : World) (g g' : Nat) (root : List UInt8) (ticks N' : Nat) (c2 : FuncId) (a2 : Array Value) (z : Value) : Prop :=
  ∃ (f' : Nat → Option Ac) (h : Nat → Option Ra) (N : Nat), RY w.heap.size W1 g root ticks f' N' ∧ RW w.heap.size W1 g' root ticks h N ∧ Ext w W1 ∧
    ∀ W1, RW w.heap.size W1 g' root ticks h N → Ext w W1 → Calls Tryd.prog c2 a2 W1 fun e w2 => e = .returned z ∧ ∃ h', RW w.heap.size w2 g' root ticks h' N' ∧ Tb w.heap.size tagX W1 w2 ∧ Sd20 f' h'
section
variable {w W W' : World} {g g' ticks N N' : Nat} {root : List UInt8} {f : Nat → Option Ac} {h : Nat → Option Ra} {c1 c2 : FuncId} {a1 a2 : Array Value} {z : Value}
theorem Md.ext (m : Md w W g g' root ticks N' c2 a2 z) (e : Ext W W') : Md w W' g g' root ticks N' c2 a2 z := by
  obtain ⟨f', h, N, r1, r2, x, go⟩ := m
  exact ⟨f', h, N, r1.ext e, r2.ext e, x.trans e, go⟩
theorem Md.fin (m : Md w W g g' root ticks N' c2 a2 z) : Calls Tryd.prog c2 a2 W fun e w2 => e = .returned z ∧ Tm w.heap.size tagZ W w2 ∧ ∃ f' h', PR w w2 g g' root ticks f' h' N' := by
  obtain ⟨f', h, N, r1, r2, x, go⟩ := m
  exact (go W r2 x).mono fun e w2 ⟨he, h', r3, t, s⟩ => ⟨he, t.z, f', h', r1.tb t, r3, Tb.ext x t, s⟩
theorem PR.mid (p : PR w W g g' root ticks f h N) (s : St2 w W g g' root ticks h N N' c1 c2 a1 a2 z) : Calls Tryd.prog c1 a1 W fun e w1 => e = .returned z ∧ Tm w.heap.size tagZ W w1 ∧ Md w w1 g g' root ticks N' c2 a2 z :=
  Calls.mono s fun e w1 ⟨he, f', r1, t, go⟩ => ⟨he, t.z, f', h, N, r1, p.rd.tm t, Tm.ext p.xt t, go⟩
theorem Tm.le {B : Nat} {S : TypeId → Bool} {a b : World} (h : Tm B S a b) (k : B ≤ a.heap.size) : B ≤ b.heap.size := Nat.le_trans k h.size
set_option maxHeartbeats 64000000 in
theorem do20_calls (p : PR w W g g' root ticks f h N) (hN : N ≤ 100000) {o : O20} (ho : o.ok w) {tg : TypeId × Nat × Nat} (hG : Gl w tg) :
    Calls Tryd.prog 13 #[.pointer (some ⟨g, 0, none⟩), .pointer (some ⟨g', 0, none⟩), .agg o.C.toArray] W fun e w' => e = .returned (.bool true) ∧ ∃ f' h', PR w w' g g' root ticks f' h' (N + 1) := by
  have L_O := O20.C_len ho
  have S_O : o.C.toArray.size = 106 := by rw [List.size_toArray, L_O]
  obtain ⟨p0, p1, p2, p3, p4, p72, p105, pE, pT⟩ := O20.parts ho
  obtain ⟨r, hr⟩ : ∃ x, x = W.heap.size := ⟨_, rfl⟩
  have B0 : Hid (Cb (W.alloc (.cells o.C.toArray 40)) r 40 o.C ∧ Ext W (W.alloc (.cells o.C.toArray 40))) := by rw [hr]; exact ⟨heap_alloc_new _ _, (Ext.refl W).alloc _⟩
  have T7 : Hid (∀ s, Cb s r 40 o.C → s.cell? ⟨r, 0, none⟩ = some (.int .i64 o.d) ∧ s.cell? ⟨r, 1, none⟩ = some (.int .i64 o.n) ∧ s.cell? ⟨r, 2, none⟩ = some (.int .i64 o.i) ∧ s.cell? ⟨r, 3, none⟩ = some (.int .i64 o.t) ∧ s.cell? ⟨r, 4, none⟩ = some (.int .i64 o.fr) ∧ s.cell? ⟨r, 105, none⟩ = some (.slice o.KA o.kn o.kc) ∧ (∀ q v, o.ev[q]? = some v → s.cell? ⟨r, 4 + q, none⟩ = some v) ∧ ∀ q v, (cellsOf o.tg)[q]? = some v → s.cell? ⟨r, 73 + q, none⟩ = some v) := fun s k => ⟨k.cell p0, k.cell p1, k.cell p2, k.cell p3, k.cell p4, k.cell p105, fun q v hv => k.cell (pE q v hv), fun q v hv => k.cell (pT q v hv)⟩
  have L_ev := O20.ev_len ho
  have L_tg : (cellsOf o.tg).length = 32 := by rw [cellsOf_len, ho.tg]
  have S_tg : (cellsOf o.tg).toArray.size = 32 := by rw [List.size_toArray, L_tg]
  have O_tg := cellsOf_one o.tg
  have hal := key_alloc16
  have S_Z := zeros32_size
  generalize zeros32 = Z at *
  have halB := bundle_alloc
  have L_zB : (bbC (List.replicate 96 0) false).length = 97 := rfl
  generalize bbC (List.replicate 96 0) false = ZB at *
  have S_zB : ZB.toArray.size = 97 := by rw [List.size_toArray, L_zB]
  have halS := stamp_alloc16
  have L_ZS := Sm.C_len zSm_ok
  generalize zSm.C = ZS at *
  have S_ZS : ZS.toArray.size = 68 := by rw [List.size_toArray, L_ZS]
  have LK : Hid (∀ (V : World) (n : Int), Calls Tryd.prog 18 #[.int .i64 n] V fun e w' => e = .returned (.agg (cellsOf (linkL n)).toArray) ∧ Ext V w') := fun V n => link_calls (n := n)
  have BN : Hid (∀ (V : World) (n : Int), Calls Tryd.prog 19 #[.int .i64 n] V fun e w' => e = .returned (.agg (bunN n).toArray) ∧ Ext V w') := fun V n => lbundle_calls (n := n)
  have wr : w.heap.size ≤ r := by rw [hr]; exact p.size
  have PP := Lib.hid p
  have HO := Lib.hid ho
  have HG := Lib.hid hG
  generalize hOC : o.C = OC at *
  replace hOC := Lib.hid (fun _ : Unit => hOC)
  clear p ho hG p0 p1 p2 p3 p4 p72 p105 pE pT L_O
  go_enter Tryd.func13, Tryd.ntmps13
  go_upto_region 1 with fail
  refine wp_gen (fun V => Cb V r 40 OC ∧ Ext W V) B0.out ?_
  rw [← hr]
  replace hr := Lib.hid (fun _ : Unit => hr)
  clear B0
  rintro u ⟨k, x⟩
  have p1 := PP.out.ext x
  have T1 : Hid (∀ s, Tm w.heap.size tagZ u s → Cb s r 40 OC) := fun s t => t.cb k rfl
  have wu := p1.size
  obtain ⟨c0, c1, c2_, c3, c4, c105, cE, cT⟩ := T7.out u k
  clear PP x hr hOC S_O k

  generalize o.d = od at *
  by_cases e0 : od = 0
  · subst e0
    have FR : Hid (∀ s, Tm w.heap.size tagZ u s → s.cell? ⟨r, 1, none⟩ = some (.int .i64 o.n) ∧ s.cell? ⟨r, 105, none⟩ = some (.slice o.KA o.kn o.kc)) := fun s t => ⟨(T7.out s (T1.out s t)).2.1, (T7.out s (T1.out s t)).2.2.2.2.2.1⟩
    have RG : Hid (∀ s, PR w s g g' root ticks f h N → ∃ z : Int, St2 w s g g' root ticks h N N 17 29 #[.pointer (some ⟨g, 0, none⟩), .int .i64 o.n, .agg (cellsOf (linkL o.n)).toArray, .agg (bunN o.n).toArray, .slice o.KA o.kn o.kc] #[.pointer (some ⟨g', 0, none⟩), .int .i64 o.n, .agg (cellsOf (linkL o.n)).toArray, .agg (bunN o.n).toArray, .slice o.KA o.kn o.kc] (.int .i64 z)) := fun s q => q.reg HO.out.n (kyL_len _ _) (kyL_len _ _) (kyL_len _ _) onL_len HO.out.ks
    have LKn := Lib.hid (fun V => LK.out V o.n)
    have BNn := Lib.hid (fun V => BN.out V o.n)
    generalize linkL o.n = lk at *
    generalize bunN o.n = bn at *
    have X1 := Lib.hid p1
    clear p1 T7 T1 LK BN hal halB halS c1 c2_ c3 c4 c105 cE cT S_tg O_tg L_tg L_ev
    go_upto_region 3 with fail
    refine qgR (R := (Tm w.heap.size tagZ)) (Tm.refl _ _) (fun _ _ _ => Tm.trans) [0, 1, 2, 3, 4, 6, 7, 9, 10, 12, 13, 14, 15, 16, 18, 19, 21, 22, 5, 8, 11, 17, 20, 23, 24, 25] [5, 8, 11, 17, 20, 23] ?_
    have PV : Hid (PR w u.drew g g' root ticks f h N) := X1.out.ext (Ext.refl u).drew
    have FV : Hid (∀ s, Tm w.heap.size tagZ u.drew s → s.cell? ⟨r, 1, none⟩ = some (.int .i64 o.n) ∧ s.cell? ⟨r, 105, none⟩ = some (.slice o.KA o.kn o.kc)) := fun s t => FR.out s ((Tm.of_ext (Ext.refl u).drew).trans t)
    clear FR X1 c0
    generalize u.drew = V at *
    repeat ((first | refine qR _ (fun w' e => And.intro (FV.out w' e).1 (FV.out w' e).2) ?_ | refine qS ?_); go_frame)
    refine qD fun K_ hK => ?_
    go_simp
    refine (LKn.out _).mono ?_
    rintro e w1 ⟨rfl, x1⟩
    refine hK.out _ _ (Tm.of_ext x1) ?_
    clear hK K_
    try go_frame
    have P1 := Lib.hid (PV.out.ext x1)
    clear PV FV x1
    repeat ((first | refine qR0 ?_ | refine qS ?_); go_frame)
    refine qD fun K_ hK => ?_
    go_simp
    refine (BNn.out _).mono ?_
    rintro e w2 ⟨rfl, x2⟩
    refine hK.out _ _ (Tm.of_ext x2) ?_
    clear hK K_
    try go_frame
    have P2 := Lib.hid (P1.out.ext x2)
    clear P1 x2
    repeat ((first | refine qR0 ?_ | refine qS ?_); go_frame)
    refine qD fun K_ hK => ?_
    go_simp
    obtain ⟨z, S3⟩ := RG.out w2 P2.out
    replace S3 := Lib.hid (P2.out.mid S3)
    clear RG P2
    refine S3.out.mono ?_
    rintro e w3 ⟨rfl, t3, M3⟩
    refine hK.out _ _ t3 ?_
    clear hK K_
    try go_frame
    replace M3 := Lib.hid M3
    clear S3 t3
    repeat ((first | refine qR0 ?_ | refine qS ?_); go_frame)
    refine qD fun K_ hK => ?_
    go_simp
    refine (LKn.out _).mono ?_
    rintro e w4 ⟨rfl, x4⟩
    refine hK.out _ _ (Tm.of_ext x4) ?_
    clear hK K_
    try go_frame
    have M4 := Lib.hid (M3.out.ext x4)
    clear M3 x4
    repeat ((first | refine qR0 ?_ | refine qS ?_); go_frame)
    refine qD fun K_ hK => ?_
    go_simp
    refine (BNn.out _).mono ?_
    rintro e w5 ⟨rfl, x5⟩
    refine hK.out _ _ (Tm.of_ext x5) ?_
    clear hK K_
    try go_frame
    have M5 := Lib.hid (M4.out.ext x5).fin
    clear M4 x5
    repeat ((first | refine qR0 ?_ | refine qS ?_); go_frame)
    refine qD fun K_ hK => ?_
    go_simp
    refine M5.out.mono ?_
    rintro e w6 ⟨rfl, t6, P6⟩
    refine hK.out _ _ t6 ?_
    clear hK K_
    try go_frame
    replace P6 := Lib.hid P6
    clear M5 t6
    repeat ((first | refine qR0 ?_ | refine qS ?_); go_frame)
    refine seq_done ?_
    go_wp2_with fail
    go_ret
    obtain ⟨f9, h9, p9⟩ := P6.out
    exact ⟨by first | rfl | simp, f9, h9, p9.more (Nat.le_succ _)⟩
  have v0 : (od == 0) = false := beq_eq_false_iff_ne.2 e0
  by_cases e2 : od = 2
  · subst e2
    have FR : Hid (∀ s, Tm w.heap.size tagZ u s → s.cell? ⟨r, 1, none⟩ = some (.int .i64 o.n) ∧ s.cell? ⟨r, 2, none⟩ = some (.int .i64 o.i)) := fun s t => ⟨(T7.out s (T1.out s t)).2.1, (T7.out s (T1.out s t)).2.2.1⟩
    have RG : Hid (∀ s, PR w s g g' root ticks f h N → ∃ z : Int, St2 w s g g' root ticks h N N 28 31 #[.pointer (some ⟨g, 0, none⟩), .int .i64 o.n, .int .i64 o.i] #[.pointer (some ⟨g', 0, none⟩), .int .i64 o.n, .int .i64 o.i] (.int .i64 z)) := fun s q => q.ack HO.out.n
    have X1 := Lib.hid p1
    clear p1 T7 T1 LK BN hal halB halS c1 c2_ c3 c4 c105 cE cT S_tg O_tg L_tg L_ev
    go_upto_region 9 with fail
    refine qgR (R := (Tm w.heap.size tagZ)) (Tm.refl _ _) (fun _ _ _ => Tm.trans) [0, 1, 2, 3, 4, 6, 7, 8, 9, 10, 5, 11, 12, 13] [5, 11] ?_
    have PV : Hid (PR w u.drew g g' root ticks f h N) := X1.out.ext (Ext.refl u).drew
    have FV : Hid (∀ s, Tm w.heap.size tagZ u.drew s → s.cell? ⟨r, 1, none⟩ = some (.int .i64 o.n) ∧ s.cell? ⟨r, 2, none⟩ = some (.int .i64 o.i)) := fun s t => FR.out s ((Tm.of_ext (Ext.refl u).drew).trans t)
    clear FR X1 c0
    generalize u.drew = V at *
    repeat ((first | refine qR _ (fun w' e => And.intro (FV.out w' e).1 (FV.out w' e).2) ?_ | refine qS ?_); go_frame)
    refine qD fun K_ hK => ?_
    go_simp
    obtain ⟨z, S3⟩ := RG.out _ PV.out
    replace S3 := Lib.hid (PV.out.mid S3)
    clear RG PV FV
    refine S3.out.mono ?_
    rintro e w3 ⟨rfl, t3, M3⟩
    refine hK.out _ _ t3 ?_
    clear hK K_
    try go_frame
    have M4 := Lib.hid M3.fin
    clear S3 t3 M3
    repeat ((first | refine qR0 ?_ | refine qS ?_); go_frame)
    refine qD fun K_ hK => ?_
    go_simp
    refine M4.out.mono ?_
    rintro e w6 ⟨rfl, t6, P6⟩
    refine hK.out _ _ t6 ?_
    clear hK K_
    try go_frame
    replace P6 := Lib.hid P6
    clear M4 t6
    repeat ((first | refine qR0 ?_ | refine qS ?_); go_frame)
    refine seq_done ?_
    go_wp2_with fail
    go_ret
    obtain ⟨f9, h9, p9⟩ := P6.out
    exact ⟨by first | rfl | simp, f9, h9, p9.more (Nat.le_succ _)⟩
  have v2 : (od == 2) = false := beq_eq_false_iff_ne.2 e2
  by_cases e3 : od = 3
  · subst e3
    have FR : Hid (∀ s, Tm w.heap.size tagZ u s → s.cell? ⟨r, 1, none⟩ = some (.int .i64 o.n) ∧ s.cell? ⟨r, 2, none⟩ = some (.int .i64 o.i)) := fun s t => ⟨(T7.out s (T1.out s t)).2.1, (T7.out s (T1.out s t)).2.2.1⟩
    obtain ⟨bb, hbb⟩ : ∃ b, (bits BinOp.and IntKind.i64 o.i 1 == 1) = b := ⟨_, rfl⟩
    have RG : Hid (∀ s, PR w s g g' root ticks f h N → ∃ z : Int, St2 w s g g' root ticks h N N 24 32 #[.pointer (some ⟨g, 0, none⟩), .int .i64 o.n, .bool bb] #[.pointer (some ⟨g', 0, none⟩), .int .i64 o.n, .bool bb] (.int .i64 z)) := fun s q => q.susp HO.out.n bb
    have X1 := Lib.hid p1
    clear p1 T7 T1 LK BN hal halB halS c1 c2_ c3 c4 c105 cE cT S_tg O_tg L_tg L_ev
    go_upto_region 11 with fail
    refine qgR (R := (Tm w.heap.size tagZ)) (Tm.refl _ _) (fun _ _ _ => Tm.trans) [0, 1, 2, 3, 4, 5, 6, 8, 9, 10, 11, 12, 13, 14, 7, 15, 16, 17] [7, 15] ?_
    have PV : Hid (PR w u.drew g g' root ticks f h N) := X1.out.ext (Ext.refl u).drew
    have FV : Hid (∀ s, Tm w.heap.size tagZ u.drew s → s.cell? ⟨r, 1, none⟩ = some (.int .i64 o.n) ∧ s.cell? ⟨r, 2, none⟩ = some (.int .i64 o.i)) := fun s t => FR.out s ((Tm.of_ext (Ext.refl u).drew).trans t)
    clear FR X1 c0
    generalize u.drew = V at *
    repeat ((first | refine qR _ (fun w' e => And.intro (FV.out w' e).1 (FV.out w' e).2) ?_ | refine qS ?_); go_frame)
    refine qD fun K_ hK => ?_
    go_simp
    obtain ⟨z, S3⟩ := RG.out _ PV.out
    replace S3 := Lib.hid (PV.out.mid S3)
    clear RG PV FV
    refine S3.out.mono ?_
    rintro e w3 ⟨rfl, t3, M3⟩
    refine hK.out _ _ t3 ?_
    clear hK K_
    try go_frame
    have M4 := Lib.hid M3.fin
    clear S3 t3 M3
    repeat ((first | refine qR0 ?_ | refine qS ?_); go_frame)
    refine qD fun K_ hK => ?_
    go_simp
    refine M4.out.mono ?_
    rintro e w6 ⟨rfl, t6, P6⟩
    refine hK.out _ _ t6 ?_
    clear hK K_
    try go_frame
    replace P6 := Lib.hid P6
    clear M4 t6
    repeat ((first | refine qR0 ?_ | refine qS ?_); go_frame)
    refine seq_done ?_
    go_wp2_with fail
    go_ret
    obtain ⟨f9, h9, p9⟩ := P6.out
    exact ⟨by first | rfl | simp, f9, h9, p9.more (Nat.le_succ _)⟩
  have v3 : (od == 3) = false := beq_eq_false_iff_ne.2 e3
  by_cases e1 : od = 1
  · subst e1
    obtain ⟨bb, hob, z, lb, S3⟩ := p1.fetch HO.out.n
    replace S3 := Lib.hid (p1.mid S3)
    have L_B : (bbC bb hob).length = 97 := by rw [bbC_len, lb]
    have EQ : Hid (∃ xs ys zs b, bbC bb hob = bbC (xs ++ (ys ++ zs)) b ∧ xs.length = 32 ∧ ys.length = 32 ∧ zs.length = 32) := ⟨bb.take 32, (bb.drop 32).take 32, bb.drop 64, hob, by rw [show bb.drop 64 = (bb.drop 32).drop 32 by rw [List.drop_drop], List.take_append_drop, List.take_append_drop], by rw [List.length_take]; omega, by rw [List.length_take, List.length_drop]; omega, by rw [List.length_drop]; omega⟩
    have O_B : (bbC bb hob).toArray.all (·.oneCell') = true := bbC_one _ _
    generalize bbC bb hob = BC at *
    have S_B : BC.toArray.size = 97 := by rw [List.size_toArray, L_B]
    have T7n : Hid (∀ s, Cb s r 40 OC → s.cell? ⟨r, 1, none⟩ = some (.int .i64 o.n)) := fun s k => (T7.out s k).2.1
    clear p1 T7 LK BN hal halS c2_ c3 c4 c105 cE cT S_tg O_tg L_tg L_ev
    go_wp2_with fail
    refine S3.out.mono ?_
    rintro e w3 ⟨rfl, t3, M3⟩
    have W4 : Hid (Cb ((w3.alloc (.cells ZB.toArray 53)).setRow w3.heap.size BC.toArray) w3.heap.size 53 BC ∧ Cb ((w3.alloc (.cells ZB.toArray 53)).setRow w3.heap.size BC.toArray) r 40 OC ∧ Md w ((w3.alloc (.cells ZB.toArray 53)).setRow w3.heap.size BC.toArray) g g' root ticks N _ _ _) := ⟨setRow_heap _ _ _ _ _ _ (heap_alloc_new _ _), (T1.out _ t3).ext (Ext.newRow _ _ _), M3.ext (Ext.newRow _ _ _)⟩
    have kB : (w3.alloc (.cells ZB.toArray 53)).heap[w3.heap.size]? = some (.cells ZB.toArray 53 (0, 0)) := heap_alloc_new _ _
    clear S3 t3 M3 T1 c1 c0
    go_upto_region 6 with (first
      | (refine wpList_store_row rfl 53 _ _ rfl w3.heap.size BC.toArray rfl rfl 53 ZB.toArray kB (by rw [S_B]; rfl) (by rw [S_B, S_zB]) O_B ?_; simp only [Act.put]))
    refine wp_gen (fun V => Cb V w3.heap.size 53 BC ∧ Cb V r 40 OC ∧ Md w V g g' root ticks N _ _ _) W4.out ?_
    generalize w3.heap.size = g7 at *
    clear W4 kB
    rintro w4 ⟨k7, kr, M4⟩
    have c1 := T7n.out w4 kr
    have F4 := Lib.hid M4.fin
    replace k7 := Lib.hid k7
    clear M4 kr T7n
    go_wp2_with fail
    refine F4.out.mono ?_
    rintro e w5 ⟨rfl, t5, P5⟩
    have k75 := t5.cb k7.out rfl
    have W6 : Hid (Cb ((w5.alloc (.cells ZB.toArray 53)).setRow w5.heap.size BC.toArray) w5.heap.size 53 BC ∧ Cb ((w5.alloc (.cells ZB.toArray 53)).setRow w5.heap.size BC.toArray) g7 53 BC ∧ ∃ f' h', PR w ((w5.alloc (.cells ZB.toArray 53)).setRow w5.heap.size BC.toArray) g g' root ticks f' h' N) := ⟨setRow_heap _ _ _ _ _ _ (heap_alloc_new _ _), k75.ext (Ext.newRow _ _ _), by obtain ⟨f', h', q⟩ := P5; exact ⟨f', h', q.ext (Ext.newRow _ _ _)⟩⟩
    have kB : (w5.alloc (.cells ZB.toArray 53)).heap[w5.heap.size]? = some (.cells ZB.toArray 53 (0, 0)) := heap_alloc_new _ _
    clear F4 t5 P5 k75 k7 c1
    go_upto_region 7 with (first
      | (refine wpList_store_row rfl 53 _ _ rfl w5.heap.size BC.toArray rfl rfl 53 ZB.toArray kB (by rw [S_B]; rfl) (by rw [S_B, S_zB]) O_B ?_; simp only [Act.put]))
    refine wp_gen (fun V => Cb V w5.heap.size 53 BC ∧ Cb V g7 53 BC ∧ ∃ f' h', PR w V g g' root ticks f' h' N) W6.out ?_
    generalize w5.heap.size = g9 at *
    clear W6 kB
    rintro w6 ⟨k9, k7, P6⟩
    replace P6 := Lib.hid P6
    go_wp2_with (first
      | ((with_reducible refine wpList_load_rowW (o := ⟨some 65, _, _, _, _, _⟩) ?_ 53 _ rfl g7 ?_ 53 BC.toArray (0, 0) _ ?_ Tryd.underlying53 ?_ ?_ ?_); (· rfl); (· rfl); (· exact k7); (· rfl); (· rw [S_B]; rfl); go_frame)
      | ((with_reducible refine wpList_load_rowW (o := ⟨some 66, _, _, _, _, _⟩) ?_ 53 _ rfl g9 ?_ 53 BC.toArray (0, 0) _ ?_ Tryd.underlying53 ?_ ?_ ?_); (· rfl); (· rfl); (· exact k9); (· rfl); (· rw [S_B]; rfl); go_frame)
      | (refine wpList_exec rfl (exec_eql_bun EQ.out rfl rfl rfl) ?_; go_frame))
    go_ret
    obtain ⟨f9, h9, p9⟩ := P6.out
    exact ⟨by first | rfl | simp, f9, h9, p9.more (Nat.le_succ _)⟩
  have v1 : (od == 1) = false := beq_eq_false_iff_ne.2 e1
  clear e0 e1 e2 e3 BN
  have kZ : (u.alloc (.cells Z 23)).heap[u.heap.size]? = some (.cells Z 23 (0, 0)) := heap_alloc_new _ _
  have kr : Cb u r 40 OC := T1.out u (Tm.refl _ _ _)
  have W3 : Hid (Ky ((u.alloc (.cells Z 23)).setRow u.heap.size (cellsOf o.tg).toArray) u.heap.size o.tg ∧ Ext u ((u.alloc (.cells Z 23)).setRow u.heap.size (cellsOf o.tg).toArray)) := ⟨⟨setRow_heap _ _ _ _ _ _ kZ, HO.out.tg⟩, Ext.newRow _ _ _⟩
  clear T1
  replace kr := Lib.hid kr
  replace p1 := Lib.hid p1
  go_upto_region 13 with (first
    | ((with_reducible refine wpList_load_mid (o := ⟨some 108, _, _, _, _, _⟩) (ty := 23) (g := r) (off := 73) (ys := (cellsOf o.tg)) ?_ rfl ?_ ?_ Tryd.underlying23 ?_ ?_ ?_); (· rfl); (· rfl); (· exact cT); (· rfl); (· rw [L_tg]; rfl); go_frame)
    | (refine wpList_store_row rfl 23 _ _ rfl u.heap.size (cellsOf o.tg).toArray rfl rfl 23 Z kZ (by rw [S_tg]; rfl) (by rw [S_tg]; exact S_Z) O_tg ?_; simp only [Act.put]))
  refine wp_gen (fun V => Ky V u.heap.size o.tg ∧ Ext u V) W3.out ?_
  obtain ⟨gt, hgt⟩ : ∃ x, x = u.heap.size := ⟨_, rfl⟩
  rw [← hgt]
  have ugt : u.heap.size ≤ gt := Nat.le_of_eq hgt.symm
  replace hgt := Lib.hid hgt
  clear W3 kZ c0 c1 c2_ c3 c4 c105 cE cT
  rintro u3 ⟨kt, x3⟩
  have kr3 := kr.out.ext x3
  obtain ⟨c0, c1, c2_, c3, c4, c105, cE, cT⟩ := T7.out u3 kr3
  by_cases e4 : od = 4
  · subst e4
    have p4 := p1.out.ext x3
    have u4 := u3
    clear v0 v1 v2 v3 LK c1 c2_ c3 c4 c105 cE cT hal
    refine wp_gen (fun V => Ky V gt o.tg ∧ Cb V r 40 OC ∧ PR w V g g' root ticks f h N) ⟨kt, kr3, p4⟩ ?_
    clear kt kr3 p4 x3 kr p1 c0 u4 u3
    rintro u4 ⟨kt4, kr4, p4⟩
    obtain ⟨c0, _⟩ := T7.out u4 kr4
    go_upto_region 19 with fail
    clear c0
    obtain ⟨s, z, sok, S3⟩ := p4.send hN HO.out.cm HO.out.pk HO.out.tg HO.out.bs HO.out.fr HO.out.tw HO.out.t HG.out (pp := o.p) (n := o.k)
    replace S3 := Lib.hid (p4.mid S3)
    obtain ⟨_, _, _, d3, _, _, dE, _⟩ := T7.out u4 kr4
    have T4 : Hid (∀ s, Tm w.heap.size tagZ u4 s → Cb s r 40 OC ∧ s.heap[gt]? = some (.cells (cellsOf o.tg).toArray 23 (0, 0))) := fun s t => ⟨t.cb kr4 rfl, t.row kt4.1 rfl⟩
    have kt4' := kt4.1
    have S_T : (cellsOf o.tg).toArray.size = 32 := kt4.size
    have L_s := Sm.C_len sok
    have O_s := one_cells s.one
    have EQ : Hid (∃ ep f t tm cm tg, s.C = stC ep f t tm cm tg ∧ cm.length = 32 ∧ tg.length = 32) := ⟨_, _, _, _, _, _, rfl, sok.1, sok.2⟩
    generalize s.C = SC at *
    have S_s : SC.toArray.size = 68 := by rw [List.size_toArray, L_s]
    have hev : Hid (evC o.fr o.tw o.cm o.pk o.p o.k o.A o.b.length o.c = o.ev) := rfl
    rw [hev.out] at S3
    clear hev p4 kt4 kr4 sok
    go_wp2_with (first
      | ((with_reducible refine wpList_load_mid (o := ⟨some 144, _, _, _, _, _⟩) (ty := 37) (g := r) (off := 4) (ys := o.ev) ?_ rfl ?_ ?_ Tryd.underlying37 ?_ ?_ ?_); (· rfl); (· rfl); (· exact dE); (· rfl); (· rw [L_ev]; rfl); go_frame)
      | ((with_reducible refine wpList_load_rowW (o := ⟨some 145, _, _, _, _, _⟩) ?_ 23 _ rfl gt ?_ 23 (cellsOf o.tg).toArray (0, 0) _ ?_ Tryd.underlying23 ?_ ?_ ?_); (· rfl); (· rfl); (· exact kt4'); (· rfl); (· rw [S_T]; rfl); go_frame))
    refine S3.out.mono ?_
    rintro e w5 ⟨rfl, t5, M5⟩
    obtain ⟨kr5, kt5⟩ := T4.out w5 t5
    have W6 : Hid (Cb ((w5.alloc (.cells ZS.toArray 67)).setRow w5.heap.size SC.toArray) w5.heap.size 67 SC ∧ Cb ((w5.alloc (.cells ZS.toArray 67)).setRow w5.heap.size SC.toArray) r 40 OC ∧ Ky ((w5.alloc (.cells ZS.toArray 67)).setRow w5.heap.size SC.toArray) gt o.tg ∧ Md w ((w5.alloc (.cells ZS.toArray 67)).setRow w5.heap.size SC.toArray) g g' root ticks (N + 1) _ _ _) := ⟨setRow_heap _ _ _ _ _ _ (heap_alloc_new _ _), kr5.ext (Ext.newRow _ _ _), (show Ky w5 gt o.tg from ⟨kt5, HO.out.tg⟩).ext (Ext.newRow _ _ _), M5.ext (Ext.newRow _ _ _)⟩
    have kS : (w5.alloc (.cells ZS.toArray 67)).heap[w5.heap.size]? = some (.cells ZS.toArray 67 (0, 0)) := heap_alloc_new _ _
    clear S3 t5 M5 kr5 kt5 T4 d3 dE kt4'
    go_upto_region 20 with (first
      | (refine wpList_store_row rfl 67 _ _ rfl w5.heap.size SC.toArray rfl rfl 67 ZS.toArray kS (by rw [S_s]; rfl) (by rw [S_s, S_ZS]) O_s ?_; simp only [Act.put]))
    refine wp_gen (fun V => Cb V w5.heap.size 67 SC ∧ Cb V r 40 OC ∧ Ky V gt o.tg ∧ Md w V g g' root ticks (N + 1) _ _ _) W6.out ?_
    generalize w5.heap.size = g16 at *
    clear W6 kS
    rintro w6 ⟨k16, kr6, kt6, M6⟩
    obtain ⟨_, _, _, d3, _, _, dE, _⟩ := T7.out w6 kr6
    have F6 := Lib.hid M6.fin
    have kt6' := kt6.1
    replace k16 := Lib.hid k16
    clear M6 kr6 kt6 T7
    go_wp2_with (first
      | ((with_reducible refine wpList_load_mid (o := ⟨some 154, _, _, _, _, _⟩) (ty := 37) (g := r) (off := 4) (ys := o.ev) ?_ rfl ?_ ?_ Tryd.underlying37 ?_ ?_ ?_); (· rfl); (· rfl); (· exact dE); (· rfl); (· rw [L_ev]; rfl); go_frame)
      | ((with_reducible refine wpList_load_rowW (o := ⟨some 155, _, _, _, _, _⟩) ?_ 23 _ rfl gt ?_ 23 (cellsOf o.tg).toArray (0, 0) _ ?_ Tryd.underlying23 ?_ ?_ ?_); (· rfl); (· rfl); (· exact kt6'); (· rfl); (· rw [S_T]; rfl); go_frame))
    refine F6.out.mono ?_
    rintro e w7 ⟨rfl, t7, P7⟩
    have k167 := t7.cb k16.out rfl
    have W8 : Hid (Cb ((w7.alloc (.cells ZS.toArray 67)).setRow w7.heap.size SC.toArray) w7.heap.size 67 SC ∧ Cb ((w7.alloc (.cells ZS.toArray 67)).setRow w7.heap.size SC.toArray) g16 67 SC ∧ ∃ f' h', PR w ((w7.alloc (.cells ZS.toArray 67)).setRow w7.heap.size SC.toArray) g g' root ticks f' h' (N + 1)) := ⟨setRow_heap _ _ _ _ _ _ (heap_alloc_new _ _), k167.ext (Ext.newRow _ _ _), by obtain ⟨f', h', q⟩ := P7; exact ⟨f', h', q.ext (Ext.newRow _ _ _)⟩⟩
    have kS : (w7.alloc (.cells ZS.toArray 67)).heap[w7.heap.size]? = some (.cells ZS.toArray 67 (0, 0)) := heap_alloc_new _ _
    clear F6 t7 P7 k167 k16 d3 dE kt6'
    go_upto_region 21 with (first
      | (refine wpList_store_row rfl 67 _ _ rfl w7.heap.size SC.toArray rfl rfl 67 ZS.toArray kS (by rw [S_s]; rfl) (by rw [S_s, S_ZS]) O_s ?_; simp only [Act.put]))
    refine wp_gen (fun V => Cb V w7.heap.size 67 SC ∧ Cb V g16 67 SC ∧ ∃ f' h', PR w V g g' root ticks f' h' (N + 1)) W8.out ?_
    generalize w7.heap.size = g18 at *
    clear W8 kS
    rintro w8 ⟨k18, k16, P8⟩
    replace P8 := Lib.hid P8
    go_wp2_with (first
      | ((with_reducible refine wpList_load_rowW (o := ⟨some 161, _, _, _, _, _⟩) ?_ 67 _ rfl g16 ?_ 67 SC.toArray (0, 0) _ ?_ Tryd.underlying67 ?_ ?_ ?_); (· rfl); (· rfl); (· exact k16); (· rfl); (· rw [S_s]; rfl); go_frame)
      | ((with_reducible refine wpList_load_rowW (o := ⟨some 162, _, _, _, _, _⟩) ?_ 67 _ rfl g18 ?_ 67 SC.toArray (0, 0) _ ?_ Tryd.underlying67 ?_ ?_ ?_); (· rfl); (· rfl); (· exact k18); (· rfl); (· rw [S_s]; rfl); go_frame)
      | (refine wpList_exec rfl (exec_eql_stamp EQ.out rfl rfl rfl) ?_; go_frame))
    go_ret
    exact ⟨by first | rfl | simp, P8.out⟩
  have v4 : (od == 4) = false := beq_eq_false_iff_ne.2 e4
  clear e4
  obtain ⟨T, hT⟩ : ∃ T, T = tgL (linkL o.fr) o.fr o.tw o.cm o.pk o.p o.k o.b := ⟨_, rfl⟩
  obtain ⟨E, hE⟩ : ∃ E, E = enE o.fr o.tw o.p o.k o.b.length := ⟨_, rfl⟩
  have L_T : T.length = 32 := by rw [hT]; exact tgL_len _ _ _ _ _ _ _ _
  have TG1 : Hid (∀ V, Ext u V → Calls Tryd.prog 23 #[.agg (cellsOf (linkL o.fr)).toArray, .agg o.ev.toArray] V fun e w' => e = .returned (.tuple #[.agg (cellsOf T).toArray, .int .i64 E]) ∧ Ext V w') := fun V q => by
    have xw := p1.out.xt.trans q
    rw [hT, hE]
    exact tag20_calls (kyL_len _ _) HO.out.cm HO.out.pk (HO.out.bs.ext xw) (HG.out.kept xw HG.out.lt)
  have TG2 : Hid (∀ V, Ext u V → Calls Tryd.prog 33 #[.agg (cellsOf (linkL o.fr)).toArray, .agg o.ev.toArray] V fun e w' => e = .returned (.tuple #[.agg (cellsOf T).toArray, .int .i64 E]) ∧ Ext V w') := fun V q => by
    have xw := p1.out.xt.trans q
    rw [hT, hE]
    exact rwtag_calls (kyL_len _ _) HO.out.cm HO.out.pk (HO.out.bs.ext xw)
  clear hT hE
  have LKn := Lib.hid (fun V => LK.out V o.fr)
  generalize linkL o.fr = lk at *
  have S_T : (cellsOf T).toArray.size = 32 := by simp [cellsOf_len, L_T]
  have O_T := cellsOf_one T
  have FE : Hid (∀ V, Ext u V → V.cell? ⟨r, 4, none⟩ = some (.int .i64 o.fr) ∧ ∀ q v, o.ev[q]? = some v → V.cell? ⟨r, 4 + q, none⟩ = some v) := fun V q => ⟨(T7.out V (kr.out.ext q)).2.2.2.2.1, (T7.out V (kr.out.ext q)).2.2.2.2.2.2.1⟩
  have X3 := Lib.hid x3
  have K3 := Lib.hid kt
  clear LK c1 c2_ c3 c4 c105 cE cT v0 v1 v2 v3 x3 kt kr3
  go_upto_region 14 with fail
  clear c0
  go_cut [12, 13] (fun sP sE wx => ∃ gT : Nat, sP = .pointer (some ⟨gT, 0, none⟩) ∧ sE = .int .i64 E ∧ Ext u3 wx ∧ Ky wx gT T ∧ u3.heap.size ≤ gT)
  case first =>
    have FV : Hid (∀ V, Ext u3 V → V.cell? ⟨r, 4, none⟩ = some (.int .i64 o.fr) ∧ ∀ q v, o.ev[q]? = some v → V.cell? ⟨r, 4 + q, none⟩ = some v) := fun V q => FE.out V (X3.out.trans q)
    have TV : Hid (∀ V, Ext u3 V → _) := fun V q => TG1.out V (X3.out.trans q)
    clear FE TG1 TG2 K3 p1 kr T7
    refine qgT (R := Below u3.heap.size) (Below.refl _) (fun _ _ _ => Below.trans) (.rd 0 (.rd 1 (.rd 2 (.rd 4 (.rd 5 (.alt 3 (.alt 6 (.rd 7 (.rd 8 (.rd 9 (.alt 10 (.alt 11 (.rd 12 .nil) .stop) .stop)))) (.alt 10 (.alt 6 (.rd 7 (.rd 8 (.rd 9 (.alt 11 (.rd 12 .nil) .stop)))) .stop) .stop)) (.alt 10 (.alt 3 (.alt 6 (.rd 7 (.rd 8 (.rd 9 (.alt 11 (.rd 12 .nil) .stop)))) .stop) .stop) .stop))))))) 13 ?_
    repeat ((first | refine qtR _ (fun w' e => (FV.out w' (Ext.trans (Ext.refl _).drew e)).1) ?_ | refine qtS ?_); go_frame)
    refine qtV rfl (fun w' => ∀ q_ v, o.ev[q_]? = some v → w'.cell? ⟨r, 4 + q_, none⟩ = some v) (fun w' e => (FV.out w' (Ext.trans (Ext.refl _).drew e)).2) (.agg o.ev.toArray) (fun w' hF => exec_load_mid rfl rfl hF rfl rfl (by rw [L_ev]; rfl)) ?_
    go_frame
    repeat ((first | refine qtR0 ?_ | refine qtS ?_); go_frame)
    have SE : Hid (Ext u3 u3.drew) := (Ext.refl u3).drew
    generalize u3.drew = WC at *
    clear FV
    repeat' (first
      | exact seqT_stop
      | (refine seqT_do (i := 3) _ rfl ?_ ?_ (fun K1 hK1 => ?_)
         (· rfl)
         rotate_left
         go_simp
         refine (LKn.out _).mono ?_
         rintro e0 WC ⟨rfl, e⟩
         refine hK1.out _ _ (e.mono SE.out.size) ?_
         clear hK1 K1
         (try replace hL := Lib.hid ((e.block _ (heap_lt hL.out)).trans hL.out))
         replace SE := Lib.hid (SE.out.trans e)
         clear e
         (try go_frame)
         repeat ((first | refine qtR0 ?_ | refine qtS ?_); go_frame)
         skip)
      | (refine seqT_do (i := 6) _ rfl ?_ ?_ (fun K1 hK1 => ?_)
         (· rfl)
         rotate_left
         go_simp
         refine (TV.out _ SE.out).mono ?_
         rintro e0 WC ⟨rfl, e⟩
         refine hK1.out _ _ (e.mono SE.out.size) ?_
         clear hK1 K1
         (try replace hL := Lib.hid ((e.block _ (heap_lt hL.out)).trans hL.out))
         replace SE := Lib.hid (SE.out.trans e)
         clear e
         (try go_frame)
         repeat ((first | refine qtR0 ?_ | refine qtS ?_); go_frame)
         skip)
      | (refine seqT_do (i := 10) _ rfl ?_ ?_ (fun K1 hK1 => ?_)
         (· rfl)
         rotate_left
         go_simp
         have e : Ext WC (WC.alloc (Obj.cells Z 23)) := (Ext.refl WC).alloc _
         obtain ⟨gT, hgT⟩ : ∃ g, g = WC.heap.size := ⟨_, rfl⟩
         have hL := Lib.hid (heap_alloc_new WC (Obj.cells Z 23))
         rw [← hgT] at hL ⊢
         have zl : u3.heap.size ≤ gT := by rw [hgT]; exact SE.out.size
         refine hK1.out _ (WC.alloc (Obj.cells Z 23)) (e.mono SE.out.size) ?_
         clear hK1 K1
         replace SE := Lib.hid (SE.out.trans e)
         clear e
         replace hgT := Lib.hid hgT
         generalize WC.alloc (Obj.cells Z 23) = WC at *
         (try go_frame)
         repeat ((first | refine qtR0 ?_ | refine qtS ?_); go_frame)
         skip)
      | (refine seqT_do (i := 11) _ rfl ?_ ?_ (fun K1 hK1 => ?_)
         (· rfl)
         rotate_left
         refine wp_store_row _ _ _ rfl gT (cellsOf T).toArray rfl rfl 23 Z hL.out (by rw [S_T]; rfl) (by rw [S_T]; exact S_Z) O_T ?_
         refine hK1.out _ _ (below_setRow (Below.refl _ _) zl _) ?_
         clear hK1 K1
         replace SE : Hid (Ext u3 (WC.setRow gT (cellsOf T).toArray)) := below_setRow SE.out zl _
         replace hL : Hid (Ky (WC.setRow gT (cellsOf T).toArray) gT T) := ⟨setRow_heap _ _ _ _ _ _ hL.out, L_T⟩
         generalize WC.setRow gT (cellsOf T).toArray = WC at *
         (try simp only [Act.put])
         repeat ((first | refine qtR0 ?_ | refine qtS ?_); go_frame)
         skip)
      | (refine seqT_done ?_
         go_wp2_with fail
         go_meet
         exact ⟨gT, rfl, rfl, SE.out, hL.out, zl⟩))
  case rest =>
  obtain ⟨g1, rfl, rfl, x4, k1, z1⟩ := hcut
  generalize wc = u4 at *
  have X4 : Hid (Ext u u4) := X3.out.trans x4
  have K4 : Hid (Ky u4 gt o.tg) := K3.out.ext x4
  replace k1 := Lib.hid k1
  clear X3 K3 x4 TG1
  replace X3 := X4
  go_upto_region 15 with fail
  go_cut [14, 15] (fun sP sE wx => ∃ gT : Nat, sP = .pointer (some ⟨gT, 0, none⟩) ∧ sE = .int .i64 E ∧ Ext u4 wx ∧ Ky wx gT T ∧ u4.heap.size ≤ gT)
  case first =>
    have FV : Hid (∀ V, Ext u4 V → V.cell? ⟨r, 4, none⟩ = some (.int .i64 o.fr) ∧ ∀ q v, o.ev[q]? = some v → V.cell? ⟨r, 4 + q, none⟩ = some v) := fun V q => FE.out V (X3.out.trans q)
    have TV : Hid (∀ V, Ext u4 V → _) := fun V q => TG2.out V (X3.out.trans q)
    clear FE TG2 K4 p1 kr T7
    refine qgT (R := Below u4.heap.size) (Below.refl _) (fun _ _ _ => Below.trans) (.rd 0 (.rd 1 (.rd 2 (.rd 4 (.rd 5 (.alt 3 (.alt 6 (.rd 7 (.rd 8 (.rd 9 (.alt 10 (.alt 11 (.rd 12 .nil) .stop) .stop)))) (.alt 10 (.alt 6 (.rd 7 (.rd 8 (.rd 9 (.alt 11 (.rd 12 .nil) .stop)))) .stop) .stop)) (.alt 10 (.alt 3 (.alt 6 (.rd 7 (.rd 8 (.rd 9 (.alt 11 (.rd 12 .nil) .stop)))) .stop) .stop) .stop))))))) 13 ?_
    repeat ((first | refine qtR _ (fun w' e => (FV.out w' (Ext.trans (Ext.refl _).drew e)).1) ?_ | refine qtS ?_); go_frame)
    refine qtV rfl (fun w' => ∀ q_ v, o.ev[q_]? = some v → w'.cell? ⟨r, 4 + q_, none⟩ = some v) (fun w' e => (FV.out w' (Ext.trans (Ext.refl _).drew e)).2) (.agg o.ev.toArray) (fun w' hF => exec_load_mid rfl rfl hF rfl rfl (by rw [L_ev]; rfl)) ?_
    go_frame
    repeat ((first | refine qtR0 ?_ | refine qtS ?_); go_frame)
    have SE : Hid (Ext u4 u4.drew) := (Ext.refl u4).drew
    generalize u4.drew = WC at *
    clear FV
    repeat' (first
      | exact seqT_stop
      | (refine seqT_do (i := 3) _ rfl ?_ ?_ (fun K1 hK1 => ?_)
         (· rfl)
         rotate_left
         go_simp
         refine (LKn.out _).mono ?_
         rintro e0 WC ⟨rfl, e⟩
         refine hK1.out _ _ (e.mono SE.out.size) ?_
         clear hK1 K1
         (try replace hL := Lib.hid ((e.block _ (heap_lt hL.out)).trans hL.out))
         replace SE := Lib.hid (SE.out.trans e)
         clear e
         (try go_frame)
         repeat ((first | refine qtR0 ?_ | refine qtS ?_); go_frame)
         skip)
      | (refine seqT_do (i := 6) _ rfl ?_ ?_ (fun K1 hK1 => ?_)
         (· rfl)
         rotate_left
         go_simp
         refine (TV.out _ SE.out).mono ?_
         rintro e0 WC ⟨rfl, e⟩
         refine hK1.out _ _ (e.mono SE.out.size) ?_
         clear hK1 K1
         (try replace hL := Lib.hid ((e.block _ (heap_lt hL.out)).trans hL.out))
         replace SE := Lib.hid (SE.out.trans e)
         clear e
         (try go_frame)
         repeat ((first | refine qtR0 ?_ | refine qtS ?_); go_frame)
         skip)
      | (refine seqT_do (i := 10) _ rfl ?_ ?_ (fun K1 hK1 => ?_)
         (· rfl)
         rotate_left
         go_simp
         have e : Ext WC (WC.alloc (Obj.cells Z 23)) := (Ext.refl WC).alloc _
         obtain ⟨gT, hgT⟩ : ∃ g, g = WC.heap.size := ⟨_, rfl⟩
         have hL := Lib.hid (heap_alloc_new WC (Obj.cells Z 23))
         rw [← hgT] at hL ⊢
         have zl : u4.heap.size ≤ gT := by rw [hgT]; exact SE.out.size
         refine hK1.out _ (WC.alloc (Obj.cells Z 23)) (e.mono SE.out.size) ?_
         clear hK1 K1
         replace SE := Lib.hid (SE.out.trans e)
         clear e
         replace hgT := Lib.hid hgT
         generalize WC.alloc (Obj.cells Z 23) = WC at *
         (try go_frame)
         repeat ((first | refine qtR0 ?_ | refine qtS ?_); go_frame)
         skip)
      | (refine seqT_do (i := 11) _ rfl ?_ ?_ (fun K1 hK1 => ?_)
         (· rfl)
         rotate_left
         refine wp_store_row _ _ _ rfl gT (cellsOf T).toArray rfl rfl 23 Z hL.out (by rw [S_T]; rfl) (by rw [S_T]; exact S_Z) O_T ?_
         refine hK1.out _ _ (below_setRow (Below.refl _ _) zl _) ?_
         clear hK1 K1
         replace SE : Hid (Ext u4 (WC.setRow gT (cellsOf T).toArray)) := below_setRow SE.out zl _
         replace hL : Hid (Ky (WC.setRow gT (cellsOf T).toArray) gT T) := ⟨setRow_heap _ _ _ _ _ _ hL.out, L_T⟩
         generalize WC.setRow gT (cellsOf T).toArray = WC at *
         (try simp only [Act.put])
         repeat ((first | refine qtR0 ?_ | refine qtS ?_); go_frame)
         skip)
      | (refine seqT_done ?_
         go_wp2_with fail
         go_meet
         exact ⟨gT, rfl, rfl, SE.out, hL.out, zl⟩))
  case rest =>
  obtain ⟨g2, rfl, rfl, x5, k2, z2⟩ := hcut
  generalize wc = u5 at *
  have X5 : Hid (Ext u u5) := X4.out.trans x5
  have K5 := (K4.out.ext x5).1
  have k15 := k1.out.ext x5
  have k15' := k15.1
  have k2' := k2.1
  clear X3 X4 K4 x5
  have W7 : Hid (Ky (u5.setRow gt (cellsOf T).toArray) gt T ∧ Ext u (u5.setRow gt (cellsOf T).toArray)) := ⟨⟨setRow_heap _ _ _ _ _ _ K5, L_T⟩, below_setRow X5.out ugt _⟩
  go_upto_region 19 with (first
    | ((with_reducible refine wpList_load_rowW (o := ⟨some 132, _, _, _, _, _⟩) ?_ 23 _ rfl g1 ?_ 23 (cellsOf T).toArray (0, 0) _ ?_ Tryd.underlying23 ?_ ?_ ?_); (· rfl); (· rfl); (· exact k15'); (· rfl); (· rw [S_T]; rfl); go_frame)
    | ((with_reducible refine wpList_load_rowW (o := ⟨some 133, _, _, _, _, _⟩) ?_ 23 _ rfl g2 ?_ 23 (cellsOf T).toArray (0, 0) _ ?_ Tryd.underlying23 ?_ ?_ ?_); (· rfl); (· rfl); (· exact k2'); (· rfl); (· rw [S_T]; rfl); go_frame)
    | ((with_reducible refine wpList_neq_keyB (o := ⟨some 134, _, _, _, _, _⟩) ?_ _ _ _ rfl T T false ?_ ?_ ?_ L_T L_T ?_); (· rfl); (· exact (by simp)); (· rfl); (· rfl); go_frame)
    | ((with_reducible refine wpList_load_rowW (o := ⟨some 140, _, _, _, _, _⟩) ?_ 23 _ rfl g1 ?_ 23 (cellsOf T).toArray (0, 0) _ ?_ Tryd.underlying23 ?_ ?_ ?_); (· rfl); (· rfl); (· exact k15'); (· rfl); (· rw [S_T]; rfl); go_frame)
    | (refine wpList_store_row rfl 23 _ _ rfl gt (cellsOf T).toArray rfl rfl 23 (cellsOf o.tg).toArray K5 (by rw [S_T]; rfl) (by rw [S_T, S_tg]) O_T ?_; simp only [Act.put]))
  refine wp_gen (fun V => Ky V gt T ∧ Ext u V) W7.out ?_
  clear W7 K5 X5 k15 k15' k2 k2' k1 z1 z2 FE TG2 LKn
  rintro u4 ⟨kt4, x4⟩
  have kr4 := kr.out.ext x4
  have p4 := p1.out.ext x4
  clear p1 kr S_T x4
  obtain ⟨s, z, sok, S3⟩ := p4.send hN HO.out.cm HO.out.pk L_T HO.out.bs HO.out.fr HO.out.tw HO.out.t HG.out (pp := o.p) (n := o.k)
  replace S3 := Lib.hid (p4.mid S3)
  obtain ⟨_, _, _, d3, _, _, dE, _⟩ := T7.out u4 kr4
  have T4 : Hid (∀ s, Tm w.heap.size tagZ u4 s → Cb s r 40 OC ∧ s.heap[gt]? = some (.cells (cellsOf T).toArray 23 (0, 0))) := fun s t => ⟨t.cb kr4 rfl, t.row kt4.1 rfl⟩
  have kt4' := kt4.1
  have S_T : (cellsOf T).toArray.size = 32 := kt4.size
  have L_s := Sm.C_len sok
  have O_s := one_cells s.one
  have EQ : Hid (∃ ep f t tm cm tg, s.C = stC ep f t tm cm tg ∧ cm.length = 32 ∧ tg.length = 32) := ⟨_, _, _, _, _, _, rfl, sok.1, sok.2⟩
  generalize s.C = SC at *
  have S_s : SC.toArray.size = 68 := by rw [List.size_toArray, L_s]
  have hev : Hid (evC o.fr o.tw o.cm o.pk o.p o.k o.A o.b.length o.c = o.ev) := rfl
  rw [hev.out] at S3
  clear hev p4 kt4 kr4 sok
  go_wp2_with (first
    | ((with_reducible refine wpList_load_mid (o := ⟨some 144, _, _, _, _, _⟩) (ty := 37) (g := r) (off := 4) (ys := o.ev) ?_ rfl ?_ ?_ Tryd.underlying37 ?_ ?_ ?_); (· rfl); (· rfl); (· exact dE); (· rfl); (· rw [L_ev]; rfl); go_frame)
    | ((with_reducible refine wpList_load_rowW (o := ⟨some 145, _, _, _, _, _⟩) ?_ 23 _ rfl gt ?_ 23 (cellsOf T).toArray (0, 0) _ ?_ Tryd.underlying23 ?_ ?_ ?_); (· rfl); (· rfl); (· exact kt4'); (· rfl); (· rw [S_T]; rfl); go_frame))
  refine S3.out.mono ?_
  rintro e w5 ⟨rfl, t5, M5⟩
  obtain ⟨kr5, kt5⟩ := T4.out w5 t5
  have W6 : Hid (Cb ((w5.alloc (.cells ZS.toArray 67)).setRow w5.heap.size SC.toArray) w5.heap.size 67 SC ∧ Cb ((w5.alloc (.cells ZS.toArray 67)).setRow w5.heap.size SC.toArray) r 40 OC ∧ Ky ((w5.alloc (.cells ZS.toArray 67)).setRow w5.heap.size SC.toArray) gt T ∧ Md w ((w5.alloc (.cells ZS.toArray 67)).setRow w5.heap.size SC.toArray) g g' root ticks (N + 1) _ _ _) := ⟨setRow_heap _ _ _ _ _ _ (heap_alloc_new _ _), kr5.ext (Ext.newRow _ _ _), (show Ky w5 gt T from ⟨kt5, L_T⟩).ext (Ext.newRow _ _ _), M5.ext (Ext.newRow _ _ _)⟩
  have kS : (w5.alloc (.cells ZS.toArray 67)).heap[w5.heap.size]? = some (.cells ZS.toArray 67 (0, 0)) := heap_alloc_new _ _
  clear S3 t5 M5 kr5 kt5 T4 d3 dE kt4'
  go_upto_region 20 with (first
    | (refine wpList_store_row rfl 67 _ _ rfl w5.heap.size SC.toArray rfl rfl 67 ZS.toArray kS (by rw [S_s]; rfl) (by rw [S_s, S_ZS]) O_s ?_; simp only [Act.put]))
  refine wp_gen (fun V => Cb V w5.heap.size 67 SC ∧ Cb V r 40 OC ∧ Ky V gt T ∧ Md w V g g' root ticks (N + 1) _ _ _) W6.out ?_
  generalize w5.heap.size = g16 at *
  clear W6 kS
  rintro w6 ⟨k16, kr6, kt6, M6⟩
  obtain ⟨_, _, _, d3, _, _, dE, _⟩ := T7.out w6 kr6
  have F6 := Lib.hid M6.fin
  have kt6' := kt6.1
  replace k16 := Lib.hid k16
  clear M6 kr6 kt6 T7
  go_wp2_with (first
    | ((with_reducible refine wpList_load_mid (o := ⟨some 154, _, _, _, _, _⟩) (ty := 37) (g := r) (off := 4) (ys := o.ev) ?_ rfl ?_ ?_ Tryd.underlying37 ?_ ?_ ?_); (· rfl); (· rfl); (· exact dE); (· rfl); (· rw [L_ev]; rfl); go_frame)
    | ((with_reducible refine wpList_load_rowW (o := ⟨some 155, _, _, _, _, _⟩) ?_ 23 _ rfl gt ?_ 23 (cellsOf T).toArray (0, 0) _ ?_ Tryd.underlying23 ?_ ?_ ?_); (· rfl); (· rfl); (· exact kt6'); (· rfl); (· rw [S_T]; rfl); go_frame))
  refine F6.out.mono ?_
  rintro e w7 ⟨rfl, t7, P7⟩
  have k167 := t7.cb k16.out rfl
  have W8 : Hid (Cb ((w7.alloc (.cells ZS.toArray 67)).setRow w7.heap.size SC.toArray) w7.heap.size 67 SC ∧ Cb ((w7.alloc (.cells ZS.toArray 67)).setRow w7.heap.size SC.toArray) g16 67 SC ∧ ∃ f' h', PR w ((w7.alloc (.cells ZS.toArray 67)).setRow w7.heap.size SC.toArray) g g' root ticks f' h' (N + 1)) := ⟨setRow_heap _ _ _ _ _ _ (heap_alloc_new _ _), k167.ext (Ext.newRow _ _ _), by obtain ⟨f', h', q⟩ := P7; exact ⟨f', h', q.ext (Ext.newRow _ _ _)⟩⟩
  have kS : (w7.alloc (.cells ZS.toArray 67)).heap[w7.heap.size]? = some (.cells ZS.toArray 67 (0, 0)) := heap_alloc_new _ _
  clear F6 t7 P7 k167 k16 d3 dE kt6'
  go_upto_region 21 with (first
    | (refine wpList_store_row rfl 67 _ _ rfl w7.heap.size SC.toArray rfl rfl 67 ZS.toArray kS (by rw [S_s]; rfl) (by rw [S_s, S_ZS]) O_s ?_; simp only [Act.put]))
  refine wp_gen (fun V => Cb V w7.heap.size 67 SC ∧ Cb V g16 67 SC ∧ ∃ f' h', PR w V g g' root ticks f' h' (N + 1)) W8.out ?_
  generalize w7.heap.size = g18 at *
  clear W8 kS
  rintro w8 ⟨k18, k16, P8⟩
  replace P8 := Lib.hid P8
  go_wp2_with (first
    | ((with_reducible refine wpList_load_rowW (o := ⟨some 161, _, _, _, _, _⟩) ?_ 67 _ rfl g16 ?_ 67 SC.toArray (0, 0) _ ?_ Tryd.underlying67 ?_ ?_ ?_); (· rfl); (· rfl); (· exact k16); (· rfl); (· rw [S_s]; rfl); go_frame)
    | ((with_reducible refine wpList_load_rowW (o := ⟨some 162, _, _, _, _, _⟩) ?_ 67 _ rfl g18 ?_ 67 SC.toArray (0, 0) _ ?_ Tryd.underlying67 ?_ ?_ ?_); (· rfl); (· rfl); (· exact k18); (· rfl); (· rw [S_s]; rfl); go_frame)
    | (refine wpList_exec rfl (exec_eql_stamp EQ.out rfl rfl rfl) ?_; go_frame))
  go_ret
  exact ⟨by first | rfl | simp, P8.out⟩
end
end Go.Proofs.YtbnjmmefnjoofaaDoor
